import Derived.Test.YtnpkkcbadcmgkaaDoorWAdd
import Derived.Test.YtnpkkcbadcmgkaaDoorBm
namespace Go.Proofs.YtnpkkcbadcmgkaaDoor
open Go.RowKit Go.Deep
open Gf (Cd)

/-- a ring, as it is handed on. -/
abbrev agR (b : Nat) : Value := .agg #[.func (.func 70) #[.pointer (some ⟨b, 0, none⟩)] #[], .func (.func 47) #[.pointer (some ⟨b, 0, none⟩)] #[]]

theorem sz256 {G : Gf.Fd} (m3 : 3 ≤ G.m) (m8 : G.m ≤ 8) {x : Nat} (hx : G.El x) : x < 256 := by
  have h2 : x < 2 ^ G.m := hx
  have := pow_bd G.m m3 m8
  omega

/-! ### calls that write -/
/-- what a call that writes in block br keeps. -/
structure RgK (G : Gf.Fd) (b bp bl br : Nat) (w0 w : World) : Prop where
  fa : FieldAt G.m G.q b bp bl w
  c0 : w.cell? ⟨w0.heap.size, 0, none⟩ = some (.func (.func 70) #[.pointer (some ⟨b, 0, none⟩)] #[])
  c1 : w.cell? ⟨w0.heap.size, 1, none⟩ = some (.func (.func 47) #[.pointer (some ⟨b, 0, none⟩)] #[])
  out : Out (fun k => k = br) w0 w
theorem RgK.start {G : Gf.Fd} {b bp bl br : Nat} {w : World} (hF : FieldAt G.m G.q b bp bl w) : RgK G b bp bl br w (w.alloc (.cells #[.func (.func 70) #[.pointer (some ⟨b, 0, none⟩)] #[], .func (.func 47) #[.pointer (some ⟨b, 0, none⟩)] #[]] 91)) :=
  ⟨hF.below ((Below.refl _ _).alloc (Nat.le_refl _) _), by simp, by simp, Out.of_below ((Below.refl _ _).alloc (Nat.le_refl _) _)⟩
theorem RgK.step {G : Gf.Fd} {b bp bl br : Nat} {w0 w : World} (h : RgK G b bp bl br w0 w) (n0 : b ≠ br) (n1 : bp ≠ br) (n2 : bl ≠ br) (n3 : w0.heap.size ≠ br) (d k : Nat) (v : Value) : RgK G b bp bl br w0 ((w.drewN d).setCell ⟨br, k, none⟩ v) := by
  refine ⟨?_, cell_blk (Ne.symm n3) h.c0, cell_blk (Ne.symm n3) h.c1, ?_⟩
  · rw [FieldAt.set_eq _ _ _ _ _ _ _ _ n0 n1 n2, FieldAt.drewN_eq]; exact h.fa
  · exact (h.out.trans (Out.of_below (below_of_drewN _ _ _))).set (p := ⟨br, k, none⟩) rfl v

/-- the row once TimesRoot has come down to above i. -/
def trM (G : Gf.Fd) (f : Nat → Nat) (o n x i j : Nat) : Nat := if o + i < j ∧ j < o + n then f j ^^^ G.mul (f (j - 1)) x else f j
def trF (G : Gf.Fd) (f : Nat → Nat) (o n x : Nat) : Nat → Nat := trM G f o n x 0
theorem trM_El {G : Gf.Fd} {f : Nat → Nat} {N : Nat} (hE : ∀ j, j < N → G.El (f j)) (o n x i : Nat) {j : Nat} (hj : j < N) : G.El (trM G f o n x i j) := by
  unfold trM
  split
  · exact G.El_xor (hE j hj) (G.El_mul (hE (j - 1) (by omega)) _)
  · exact hE j hj
theorem trM_step (G : Gf.Fd) (f : Nat → Nat) (o n x i : Nat) (hi : i + 1 < n) (j : Nat) : trM G f o n x i j = if j = o + (i + 1) then f (o + (i + 1)) ^^^ G.mul (f (o + i)) x else trM G f o n x (i + 1) j := by
  unfold trM
  by_cases e : j = o + (i + 1)
  · subst e
    rw [if_pos (by omega), if_pos rfl]
    have : o + (i + 1) - 1 = o + i := by omega
    rw [this]
  · rw [if_neg e]
    by_cases h : o + i < j ∧ j < o + n
    · rw [if_pos h, if_pos (by omega)]
    · rw [if_neg h, if_neg (by omega)]

set_option maxRecDepth 100000 in
set_option maxHeartbeats 4000000 in
theorem timesRoot_row (G : Gf.Fd) (b bp bl br o n cap x N : Nat) (f : Nat → Nat) (w : World) (m3 : 3 ≤ G.m) (m8 : G.m ≤ 8) (hF : FieldAt G.m G.q b bp bl w) (hx : G.El x) (hE : ∀ j, j < N → G.El (f j)) (h1 : 1 ≤ n) (hon : o + n ≤ N) (hN : N < 4096)
    (hr : NRow w br N f) (n0 : b ≠ br) (n1 : bp ≠ br) (n2 : bl ≠ br) :
    Calls Tryd.prog 86 #[agR b, .slice (some ⟨br, o, none⟩) n cap, .int .i64 (x : Int)] w fun e w' => (∃ r, e = .returned r) ∧ NRow w' br N (trF G f o n x) ∧ Out (fun k => k = br) w w' := by
  have n3 : w.heap.size ≠ br := by have : br < w.heap.size := World.rowIs.lt hr; omega
  have KP := hide (RgK.start (br := br) hF)
  have HR := hide (show NRow (w.alloc (.cells #[.func (.func 70) #[.pointer (some ⟨b, 0, none⟩)] #[], .func (.func 47) #[.pointer (some ⟨b, 0, none⟩)] #[]] 91)) br N (trM G f o n x (n - 1)) from
    NRow.congr (f := f) (Row.below hr ((Below.refl _ _).alloc (Nat.le_refl _) _)) (fun j _ => by unfold trM; rw [if_neg (by omega)]))
  have HE := hide hE
  have HX := hide hx
  have HT := hide (fun i j wx (hi : G.El i) (hj : G.El j) (hx : FieldAt G.m G.q b bp bl wx) => ftimes_drew G.m G.q b bp bl i j wx m3 m8 G.isF hx hi hj)
  have HP := hide (fun (i j : Nat) wx (hi : G.El i) (hj : G.El j) => fplus_any (.pointer (some ⟨b, 0, none⟩)) i j wx (sz256 m3 m8 hi) (sz256 m3 m8 hj))
  clear hF hE hx hr
  go_enter Tryd.func86, Tryd.ntmps86
  go_wp2
  go_loopw [6] (fun i wr => ∃ i0 : Nat, i0 + 1 ≤ n ∧ i = .int .i64 i0 ∧ Hid (NRow wr br N (trM G f o n x i0)) ∧ Hid (RgK G b bp bl br w wr)) (fun i _ => (intOf i).toNat)
  case atStart => exact ⟨n - 1, by omega, by congr 1; omega, HR, KP⟩
  case round =>
    clear KP HR
    obtain ⟨i0, hi0, rfl, hr, kp⟩ := hrel
    rcases Nat.eq_zero_or_pos i0 with h0 | h0
    · subst h0
      have f2 := hide (unhide kp).out
      clear kp HT HP HE HX
      go_wp2
      go_end0
      exact ⟨⟨_, rfl⟩, unhide hr, unhide f2⟩
    · obtain ⟨j, rfl⟩ : ∃ j, i0 = j + 1 := ⟨i0 - 1, by omega⟩
      have ej : (((j + 1 : Nat)) : Int) = (j : Int) + 1 := by omega
      rw [ej]
      have x0 := (unhide kp).c0
      have x1 := (unhide kp).c1
      have a1 : trM G f o n x (j + 1) (o + (j + 1)) = f (o + (j + 1)) := by unfold trM; rw [if_neg (by omega)]
      have a2 : trM G f o n x (j + 1) (o + j) = f (o + j) := by unfold trM; rw [if_neg (by omega)]
      have s1 : wr.cell? ⟨br, o + (j + 1), none⟩ = some (.int .i64 ((f (o + (j + 1)) : Nat) : Int)) := by rw [NRow.cell (unhide hr) (show o + (j + 1) < N by omega), a1]
      have s2 : wr.cell? ⟨br, o + j, none⟩ = some (.int .i64 ((f (o + j) : Nat) : Int)) := by rw [NRow.cell (unhide hr) (show o + j < N by omega), a2]
      have s3 : wr.frozen? ⟨br, o + (j + 1), none⟩ = false := NRow.frozen (unhide hr) _
      have e1 := unhide HE (o + (j + 1)) (by omega)
      have e2 := unhide HE (o + j) (by omega)
      have hT1 := hide (fun wx hx => unhide HT _ x wx e2 (unhide HX) hx)
      have hP1 := hide (fun wx => unhide HP _ _ wx e1 (G.El_mul e2 x))
      have hEq : Gf.mul G.m G.q (f (o + j)) x = G.mul (f (o + j)) x := rfl
      rw [hEq] at hT1
      have f1 := hide (fun d : Nat => show NRow ((wr.drewN d).setCell ⟨br, o + (j + 1), none⟩ (.int .i64 ((f (o + (j + 1)) ^^^ G.mul (f (o + j)) x : Nat) : Int))) br N (trM G f o n x j) from
        NRow.set (w := wr.drewN d) (unhide hr) (o + (j + 1)) _ (fun i _ => trM_step G f o n x j (by omega) i))
      have f2 := hide (fun d : Nat => (unhide kp).step n0 n1 n2 n3 d (o + (j + 1)) (.int .i64 ((f (o + (j + 1)) ^^^ G.mul (f (o + j)) x : Nat) : Int)))
      have hfa := hide (unhide kp).fa
      clear e1 e2 a1 a2 hEq kp hr HT HP HE HX
      generalize f (o + (j + 1)) ^^^ G.mul (f (o + j)) x = y at *
      generalize G.mul (f (o + j)) x = z at *
      generalize f (o + (j + 1)) = a at *
      generalize f (o + j) = a' at *
      have hI1 : (0 : Int) < (j : Int) + 1 := by omega
      have hI2 : (j : Int) + 1 < (n : Int) := by omega
      have hI3 : (j : Int) < (n : Int) := by omega
      have hI4 : (0 : Int) ≤ (j : Int) + 1 := by omega
      have hI5 : (j : Int) ≤ 5000 := by omega
      have hw1 : IntKind.i64.wrap (j : Int) = (j : Int) := wrap_small (by omega) (by omega)
      go_wp2
      refine quiet_tail 18 (by kernel_rfl) (by kernel_rfl) ?_
      simp only [List.take_succ_cons, List.take_zero, List.drop_succ_cons, List.drop_zero]
      repeat (quiet_step (first | exact Calls.quiet_of (unhide hT1 _ ((unhide hfa).heap rfl)) | exact Calls.quiet_of_same (unhide hP1 _)))
      refine wpQuiet_nil ?_
      intro d
      go_wp2
      exact ⟨⟨j, by omega, by go_num, unhide f1 d, unhide f2 d⟩, by simp [intOf]⟩

/-- the row once k terms are added. -/
def amM (G : Gf.Fd) (f : Nat → Nat) (o o2 q k j : Nat) : Nat := if o ≤ j ∧ j < o + k then f j ^^^ G.mul q (f (o2 + (j - o))) else f j
theorem amM_El {G : Gf.Fd} {f : Nat → Nat} {N q : Nat} (hE : ∀ j, j < N → G.El (f j)) (hq : G.El q) (o o2 k : Nat) {j : Nat} (hj : j < N) : G.El (amM G f o o2 q k j) := by
  unfold amM
  split
  · exact G.El_xor (hE j hj) (G.El_mul hq _)
  · exact hE j hj
theorem amM_step (G : Gf.Fd) (f : Nat → Nat) (o o2 q k j : Nat) : amM G f o o2 q (k + 1) j = if j = o + k then f (o + k) ^^^ G.mul q (f (o2 + k)) else amM G f o o2 q k j := by
  unfold amM
  by_cases e : j = o + k
  · subst e
    rw [if_pos (by omega), if_pos rfl]
    have : o + k - o = k := by omega
    rw [this]
  · rw [if_neg e]
    by_cases h : o ≤ j ∧ j < o + k
    · rw [if_pos (by omega), if_pos h]
    · rw [if_neg (by omega), if_neg h]

set_option maxRecDepth 100000 in
set_option maxHeartbeats 4000000 in
/-- AddMultiple, where both lists lie in one row, apart. -/
theorem addMul_row (G : Gf.Fd) (b bp bl br o n1 cap1 q o2 n cap2 N : Nat) (f : Nat → Nat) (w : World) (m3 : 3 ≤ G.m) (m8 : G.m ≤ 8) (hF : FieldAt G.m G.q b bp bl w) (hq : G.El q) (hE : ∀ j, j < N → G.El (f j)) (hn1 : n ≤ n1) (hon : o + n ≤ N) (hon2 : o2 + n ≤ N) (hN : N < 4096)
    (hap : o + n ≤ o2 ∨ o2 + n ≤ o) (hr : NRow w br N f) (n0 : b ≠ br) (h1 : bp ≠ br) (n2 : bl ≠ br) :
    Calls Tryd.prog 90 #[agR b, .slice (some ⟨br, o, none⟩) n1 cap1, .int .i64 (q : Int), .slice (some ⟨br, o2, none⟩) n cap2] w fun e w' => (∃ r, e = .returned r) ∧ NRow w' br N (amM G f o o2 q n) ∧ Out (fun k => k = br) w w' := by
  have n3 : w.heap.size ≠ br := by have : br < w.heap.size := World.rowIs.lt hr; omega
  have KP := hide (RgK.start (br := br) hF)
  have HR := hide (show NRow (w.alloc (.cells #[.func (.func 70) #[.pointer (some ⟨b, 0, none⟩)] #[], .func (.func 47) #[.pointer (some ⟨b, 0, none⟩)] #[]] 91)) br N (amM G f o o2 q 0) from
    NRow.congr (f := f) (Row.below hr ((Below.refl _ _).alloc (Nat.le_refl _) _)) (fun j _ => by unfold amM; rw [if_neg (by omega)]))
  have HE := hide hE
  have HX := hide hq
  have HT := hide (fun i j wx (hi : G.El i) (hj : G.El j) (hx : FieldAt G.m G.q b bp bl wx) => ftimes_drew G.m G.q b bp bl i j wx m3 m8 G.isF hx hi hj)
  have HP := hide (fun (i j : Nat) wx (hi : G.El i) (hj : G.El j) => fplus_any (.pointer (some ⟨b, 0, none⟩)) i j wx (sz256 m3 m8 hi) (sz256 m3 m8 hj))
  have HAP := hide hap
  clear hF hE hq hr hap
  go_enter Tryd.func90, Tryd.ntmps90
  go_wp2
  go_loopw [8, 9, 12] (fun _ _ i wr => ∃ k : Nat, k ≤ n ∧ i = .int .i64 k ∧ Hid (NRow wr br N (amM G f o o2 q k)) ∧ Hid (RgK G b bp bl br w wr)) (fun _ _ i _ => n - (intOf i).toNat)
  case atStart => exact ⟨0, by omega, rfl, HR, KP⟩
  case round =>
    clear KP HR
    obtain ⟨k, hk, rfl, hr, kp⟩ := hrel
    by_cases hkl : k < n
    · have hI : (k : Int) < (n : Int) := by omega
      have hI2 : (k : Int) < (n1 : Int) := by omega
      have x0 := (unhide kp).c0
      have x1 := (unhide kp).c1
      have hap := unhide HAP
      have a1 : amM G f o o2 q k (o + k) = f (o + k) := by unfold amM; rw [if_neg (by omega)]
      have a2 : amM G f o o2 q k (o2 + k) = f (o2 + k) := by unfold amM; rw [if_neg (by omega)]
      have s1 : wr.cell? ⟨br, o + k, none⟩ = some (.int .i64 ((f (o + k) : Nat) : Int)) := by rw [NRow.cell (unhide hr) (show o + k < N by omega), a1]
      have s2 : wr.cell? ⟨br, o2 + k, none⟩ = some (.int .i64 ((f (o2 + k) : Nat) : Int)) := by rw [NRow.cell (unhide hr) (show o2 + k < N by omega), a2]
      have s3 : wr.frozen? ⟨br, o + k, none⟩ = false := NRow.frozen (unhide hr) _
      have e1 := unhide HE (o + k) (by omega)
      have e2 := unhide HE (o2 + k) (by omega)
      have hT1 := hide (fun wx hx => unhide HT q _ wx (unhide HX) e2 hx)
      have hP1 := hide (fun wx => unhide HP _ _ wx e1 (G.El_mul (unhide HX) (f (o2 + k))))
      have hEq : Gf.mul G.m G.q q (f (o2 + k)) = G.mul q (f (o2 + k)) := rfl
      rw [hEq] at hT1
      have f1 := hide (fun d : Nat => show NRow ((wr.drewN d).setCell ⟨br, o + k, none⟩ (.int .i64 ((f (o + k) ^^^ G.mul q (f (o2 + k)) : Nat) : Int))) br N (amM G f o o2 q (k + 1)) from
        NRow.set (w := wr.drewN d) (unhide hr) (o + k) _ (fun i _ => amM_step G f o o2 q k i))
      have f2 := hide (fun d : Nat => (unhide kp).step n0 h1 n2 n3 d (o + k) (.int .i64 ((f (o + k) ^^^ G.mul q (f (o2 + k)) : Nat) : Int)))
      have hfa := hide (unhide kp).fa
      clear e1 e2 a1 a2 hEq kp hr HT HP HE HX hap
      generalize f (o + k) ^^^ G.mul q (f (o2 + k)) = y at *
      generalize G.mul q (f (o2 + k)) = z at *
      generalize f (o + k) = a at *
      generalize f (o2 + k) = a' at *
      go_wp2
      refine quiet_tail 14 (by kernel_rfl) (by kernel_rfl) ?_
      simp only [List.take_succ_cons, List.take_zero, List.drop_succ_cons, List.drop_zero]
      repeat (quiet_step (first | exact Calls.quiet_of (unhide hT1 _ ((unhide hfa).heap rfl)) | exact Calls.quiet_of_same (unhide hP1 _)))
      refine wpQuiet_nil ?_
      intro d
      go_wp2
      exact ⟨⟨k + 1, by omega, by go_num, unhide f1 d, unhide f2 d⟩, by simp [intOf]; omega⟩
    · have e : k = n := by omega
      subst e
      have f2 := hide (unhide kp).out
      clear kp HT HP HE HX
      go_wp2
      go_end0
      exact ⟨⟨_, rfl⟩, unhide hr, unhide f2⟩
end Go.Proofs.YtnpkkcbadcmgkaaDoor

namespace Go.Proofs.YtnpkkcbadcmgkaaDoor
open Go.RowKit Go.Deep
open Gf (Cd)

/-- the product of X less each of the roots, as FromRoots makes it. -/
def genR (G : Gf.Fd) : List Nat → List Nat → List Nat
  | g, [] => g
  | g, r :: rs => genR G (Gf.stepGen G g r) rs
theorem genR_append (G : Gf.Fd) : ∀ (rs g : List Nat) (r : Nat), genR G g (rs ++ [r]) = Gf.stepGen G (genR G g rs) r
  | [], _, _ => rfl
  | _ :: rs, _, r => genR_append G rs _ r
theorem genR_gen (G : Gf.Fd) : ∀ (js g : List Nat), genR G g (js.map G.pw) = Gf.genTo G g js
  | [], _ => rfl
  | _ :: js, _ => genR_gen G js _
theorem genR_length (G : Gf.Fd) : ∀ (rs g : List Nat), (genR G g rs).length = g.length + rs.length
  | [], _ => rfl
  | r :: rs, g => by rw [genR, genR_length G rs, Gf.stepGen_length]; simp; omega
theorem genR_El {G : Gf.Fd} : ∀ (rs : List Nat) {g : List Nat}, Gf.AllEl G g → Gf.AllEl G (genR G g rs)
  | [], _, h => h
  | r :: rs, _, h => genR_El rs (Gf.stepGen_El r h)

theorem take_snoc {l : List Nat} {k : Nat} (h : k < l.length) : l.take (k + 1) = l.take k ++ [l.getD k 0] := by
  rw [List.take_succ_eq_append_getElem h, List.getD_eq_getElem?_getD, List.getElem?_eq_getElem h]; rfl

theorem snoc_getD (g : List Nat) (i : Nat) : (g ++ [0]).getD i 0 = g.getD i 0 := by
  rw [List.getD_eq_getElem?_getD, List.getD_eq_getElem?_getD]
  rcases Nat.lt_or_ge i g.length with h | h
  · rw [List.getElem?_append_left h]
  · rw [List.getElem?_append_right h, List.getElem?_eq_none h]
    cases e : i - g.length with
    | zero => rfl
    | succ m => rfl
theorem map_getD0 {h : Nat → Nat} (h0 : h 0 = 0) (g : List Nat) (i : Nat) : (g.map h).getD i 0 = h (g.getD i 0) := by
  rw [List.getD_eq_getElem?_getD, List.getD_eq_getElem?_getD, List.getElem?_map]
  cases g[i]? with
  | none => exact h0.symm
  | some a => rfl
theorem step_getD (G : Gf.Fd) (g : List Nat) (r i : Nat) : (Gf.stepGen G g r).getD i 0 = if 0 < i then g.getD i 0 ^^^ G.mul (g.getD (i - 1) 0) r else g.getD i 0 := by
  unfold Gf.stepGen
  rw [zx_getD _ _ _ (by simp), snoc_getD]
  cases i with
  | zero => simp
  | succ i =>
    rw [if_pos (Nat.succ_pos _), List.getD_cons_succ, map_getD0 (G.zero_mul r), Nat.add_sub_cancel]
theorem genR_far (G : Gf.Fd) (rs g : List Nat) (i : Nat) (h : g.length + rs.length ≤ i) : (genR G g rs).getD i 0 = 0 := by
  rw [List.getD_eq_getElem?_getD, List.getElem?_eq_none (by rw [genR_length]; exact h)]; rfl

theorem heap_setCell_same {w : World} {b : Nat} {cs : Array Value} {t : TypeId} (h : w.heap[b]? = some (.cells cs t (0, 0))) (k : Nat) (v : Value) : (w.setCell ⟨b, k, none⟩ v).heap[b]? = some (.cells (cs.setIfInBounds k v) t (0, 0)) := by
  rw [setCell_eq_setRow w b k cs t (0, 0) v h]
  exact setRow_heap w b cs _ t (0, 0) h
/-- what FromRoots keeps. -/
structure FrK (G : Gf.Fd) (b bp bl : Nat) (w0 w : World) : Prop where
  fa : FieldAt G.m G.q b bp bl w
  c0 : w.cell? ⟨w0.heap.size, 0, none⟩ = some (.func (.func 70) #[.pointer (some ⟨b, 0, none⟩)] #[])
  c1 : w.cell? ⟨w0.heap.size, 1, none⟩ = some (.func (.func 47) #[.pointer (some ⟨b, 0, none⟩)] #[])
  be : Below w0.heap.size w0 w
  lt : b < w0.heap.size ∧ bp < w0.heap.size ∧ bl < w0.heap.size

theorem FrK.up {G : Gf.Fd} {b bp bl : Nat} {w0 w w' : World} (h : FrK G b bp bl w0 w) (hb : Below (w0.heap.size + 1) w w') : FrK G b bp bl w0 w' :=
  ⟨h.fa.of (hb.block _ (by have := h.lt.1; omega)) (hb.block _ (by have := h.lt.2.1; omega)) (hb.block _ (by have := h.lt.2.2; omega)), by rw [hb.cell (p := ⟨w0.heap.size, 0, none⟩) (Nat.lt_succ_self _)]; exact h.c0, by rw [hb.cell (p := ⟨w0.heap.size, 1, none⟩) (Nat.lt_succ_self _)]; exact h.c1, h.be.trans (hb.mono (Nat.le_succ _)), h.lt⟩

theorem set_getD (l : List Nat) (k x j : Nat) (hk : k < l.length) : (l.set k x).getD j 0 = if j = k then x else l.getD j 0 := by
  rw [List.getD_eq_getElem?_getD, List.getD_eq_getElem?_getD, List.getElem?_set]
  by_cases e : j = k
  · subst e; rw [if_pos rfl, if_pos hk, if_pos rfl]; rfl
  · rw [if_neg (Ne.symm e), if_neg e]
theorem ints_set (l : List Nat) (k x : Nat) : (ints l).set k (.int .i64 (x : Int)) = ints (l.set k x) := by simp [ints, List.map_set]
theorem ints_at (l : List Nat) (k : Nat) (hk : k < l.length) : (ints l)[k]? = some (.int .i64 ((l.getD k 0 : Nat) : Int)) := by
  simp [ints, List.getD_eq_getElem?_getD, List.getElem?_eq_getElem hk]
theorem ints_length (l : List Nat) : (ints l).length = l.length := by simp [ints]
theorem ints_snoc (l : List Nat) (x : Nat) : ints (l ++ [x]) = ints l ++ [.int .i64 (x : Int)] := by simp [ints]

set_option maxRecDepth 100000 in
set_option maxHeartbeats 8000000 in
theorem fromRoots_any (G : Gf.Fd) (b bp bl : Nat) (v : Value) (l : List Nat) (w : World) (m3 : 3 ≤ G.m) (m8 : G.m ≤ 8) (hF : FieldAt G.m G.q b bp bl w) (h : RdN w v l) (hl : l.length < 256) (hel : Gf.AllEl G l) :
    Calls Tryd.prog 72 #[agR b, v] w fun e w' => ∃ bg, e = .returned (.slice (some ⟨bg, 0, none⟩) (l.length + 1) (l.length + 1)) ∧ w.heap.size ≤ bg ∧ NRow w' bg (l.length + 1) (fun i => (genR G [1] l).getD i 0) ∧ Below w.heap.size w w' := by
  obtain ⟨a, capv, rfl, -, hc⟩ := h
  have HC : Hid (∀ i, i < l.length → ∃ b o, a = some ⟨b, o, none⟩ ∧ b < w.heap.size ∧ w.cell? ⟨b, o + i, none⟩ = some (.int .i64 ((l.getD i 0 : Nat) : Int))) := fun i hi => by
    obtain ⟨b, o, e, hcell⟩ := hc i (by simpa using hi)
    rw [mapN_getD] at hcell
    exact ⟨b, o, e, lt_of_cell hcell, hcell⟩
  rw [List.length_map]
  have mk := fun (wx : World) => run_make_row' (P := Tryd.prog) 41 3 (.int .i64 0) 8 Tryd.underlying41 (show (Tryd.prog.info? 3).map (fun i => (i.zero, i.size, i.bytes)) = some (some (.int .i64 0), 1, 8) by kernel_rfl) rfl .i64 .i64 (l.length + 1) (by omega) (by omega) wx
  have ek : (((l.length + 1 : Nat)) : Int) = (l.length : Int) + 1 := by omega
  rw [ek] at mk
  clear ek
  have KP : Hid (FrK G b bp bl w (w.alloc (.cells #[.func (.func 70) #[.pointer (some ⟨b, 0, none⟩)] #[], .func (.func 47) #[.pointer (some ⟨b, 0, none⟩)] #[]] 91))) :=
    ⟨hF.below ((Below.refl _ _).alloc (Nat.le_refl _) _), by simp, by simp, (Below.refl _ _).alloc (Nat.le_refl _) _, lt_of_cell hF.c0, hF.pows.lt, hF.logs.lt⟩
  have HEL := hide hel
  have hone : Hid (∀ wx : World, NRow (wx.alloc (.cells ((madeCells #[.int .i64 0] (l.length + 1)).setIfInBounds 0 (.int .i64 1)) 3)) wx.heap.size (l.length + 1) (fun i => (genR G [1] (l.take 0)).getD i 0)) := fun wx =>
    World.rowIs.of_block (NRow.set (w := wx.alloc (.cells (madeCells #[.int .i64 0] (l.length + 1)) 3)) (b := wx.heap.size) (n := l.length + 1) (f := fun _ => 0) (g := fun i => (genR G [1] (l.take 0)).getD i 0) (World.rowIs_made wx (.int .i64 0) (l.length + 1) 3) 0 1 (fun i _ => by
      show ([1] : List Nat).getD i 0 = if i = 0 then 1 else 0
      cases i with
      | zero => rfl
      | succ i => rfl)) ((heap_alloc_new wx _).trans (heap_setCell_same (heap_alloc_new wx _) 0 (.int .i64 1)).symm)
  have hm0 : (madeCells #[Value.int IntKind.i64 0] (l.length + 1))[0]? = some (.int .i64 0) := by simp [madeCells]
  clear hc hF hel
  go_enter Tryd.func72, Tryd.ntmps72
  go_wp2
  clear mk hm0
  go_loopw [7, 16] (fun _ i wr => ∃ k : Nat, k ≤ l.length ∧ i = .int .i64 k ∧ Hid (NRow wr (w.heap.size + 1) (l.length + 1) (fun i => (genR G [1] (l.take k)).getD i 0)) ∧ Hid (FrK G b bp bl w wr)) (fun _ i _ => l.length - (intOf i).toNat)
  case atStart =>
    refine ⟨0, by omega, rfl, hide ?_, hide ((unhide KP).up ((Below.refl _ _).alloc (by simp) _))⟩
    have h1 := unhide hone (w.alloc (.cells #[.func (.func 70) #[.pointer (some ⟨b, 0, none⟩)] #[], .func (.func 47) #[.pointer (some ⟨b, 0, none⟩)] #[]] 91))
    rw [nblk_alloc] at h1
    exact h1
  case round =>
    clear KP hone
    obtain ⟨k, hk, rfl, hr, kp⟩ := hrel
    by_cases hlt : k < l.length
    · obtain ⟨b', o, rfl, hbl, hcell⟩ := unhide HC k hlt
      have hcw : wr.cell? ⟨b', o + k, none⟩ = some (.int .i64 ((l.getD k 0 : Nat) : Int)) := by rw [(unhide kp).be.cell (p := ⟨b', o + k, none⟩) hbl]; exact hcell
      have hI : (k : Int) < (l.length : Int) := by omega
      have x0 := (unhide kp).c0
      have x1 := (unhide kp).c1
      have hsz : w.heap.size + 1 ≤ wr.heap.size := lt_of_cell (unhide kp).c0
      have hgE := genR_El (G := G) (l.take k) (Gf.AllEl.cons G.El_one (Gf.AllEl.nil G))
      obtain ⟨l0, l1, l2⟩ := (unhide kp).lt
      have hT := hide (timesRoot_row G b bp bl (w.heap.size + 1) 0 (l.length + 1) (l.length + 1) (l.getD k 0) (l.length + 1) (fun i => (genR G [1] (l.take k)).getD i 0) wr m3 m8 (unhide kp).fa (Gf.getD_El (unhide HEL) k) (fun j _ => Gf.getD_El hgE j) (by omega) (by omega) (by omega) (unhide hr) (by omega) (by omega) (by omega))
      have hnext := hide (show ∀ i, trF G (fun i => (genR G [1] (l.take k)).getD i 0) 0 (l.length + 1) (l.getD k 0) i = if i < l.length + 1 then (genR G [1] (l.take (k + 1))).getD i 0 else (genR G [1] (l.take k)).getD i 0 from fun i => by
        rw [take_snoc hlt, genR_append, step_getD]
        unfold trF trM
        by_cases h1 : i < l.length + 1
        · rw [if_pos h1]
          by_cases h0 : 0 < i
          · rw [if_pos (by omega), if_pos h0]
          · rw [if_neg (by omega), if_neg h0]
        · rw [if_neg h1, if_neg (by omega)])
      clear hcell hgE l0 l1 l2
      generalize l.getD k 0 = x at *
      go_wp2_with fail
      refine (unhide hT).mono ?_
      rintro e w2 ⟨⟨rr, rfl⟩, hr2, ho2⟩
      have f1 := hide (NRow.congr hr2 (fun i hi => by rw [unhide hnext i, if_pos hi]))
      have f2 := hide ((unhide kp).up (ho2.below (B := w.heap.size + 1) (fun j hj => by omega) hsz))
      clear hr2 ho2 hr kp hT hnext x0 x1 hcw
      go_wp2
      exact ⟨⟨k + 1, by omega, by go_num, f1, f2⟩, by simp [intOf]; omega⟩
    · have e : k = l.length := by omega
      subst e
      have f1 := hide (show NRow wr (w.heap.size + 1) (l.length + 1) (fun i => (genR G [1] l).getD i 0) from by
        have h1 := unhide hr
        rw [List.take_of_length_le (Nat.le_refl _)] at h1
        exact h1)
      have f2 := hide (unhide kp).be
      clear hr kp
      go_wp2
      go_ret
      exact ⟨w.heap.size + 1, rfl, by omega, unhide f1, unhide f2⟩
end Go.Proofs.YtnpkkcbadcmgkaaDoor
