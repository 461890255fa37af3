import Derived.Test.YtnpkkcbadcmgkaaGreatDoorWList2
import Derived.Test.YtnpkkcbadcmgkaaGreatDoorBm
import Derived.Laws.IdiomCopy
import Derived.Lib.SliceRun
namespace Go.Proofs.YtnpkkcbadcmgkaaGreatDoor
open Go.RowKit Go.Deep
open Gf (Cd)

/-! ### The decoder's desk: its block bd, and the room, block bm, with the lists one behind the other -/
def oS (c : Cd) : Nat := 2 * c.n
def oL (c : Cd) : Nat := 2 * c.n + (c.delta - 1)
def oE (c : Cd) : Nat := 2 * c.n + (c.delta - 1) + c.delta
def oV (c : Cd) : Nat := 2 * c.n + (c.delta - 1) + 2 * c.delta
def oP (c : Cd) : Nat := 2 * c.n + 2 * (c.delta - 1) + 2 * c.delta
def rN (c : Cd) : Nat := 2 * c.n + 3 * (c.delta - 1) + 2 * c.delta

def fP (b : Nat) : Value := .func (.func 56) #[.pointer (some ⟨b, 0, none⟩)] #[]
def fT (b : Nat) : Value := .func (.func 57) #[.pointer (some ⟨b, 0, none⟩)] #[]
def fI (b : Nat) : Value := .func (.func 84) #[.pointer (some ⟨b, 0, none⟩)] #[]
def fW (b : Nat) : Value := .func (.func 61) #[.pointer (some ⟨b, 0, none⟩)] #[]
def fC (c : Cd) (b : Nat) : Value := .func (.func (chkF c.bin)) #[.pointer (some ⟨b, 0, none⟩)] #[]
def sl (bm o n : Nat) : Value := .slice (some ⟨bm, o, none⟩) n n
/-- the decoder's own cells: lk: its lock's word; ls, dg: how many places are gone, and the locator's degree. -/
def dkCells (c : Cd) (b bm : Nat) (lk ls dg : Int) : Array Value :=
  #[fP b, fT b, fP b, fT b, fI b, fW b, fC c b, .int .i64 (c.first : Int), .int .i64 (c.delta : Int), .int .i64 (c.short : Int), .int .i64 (c.cut : Int), .int .i32 lk, .int .u32 0,
    sl bm 0 (rN c), sl bm 0 c.n, sl bm c.n c.n, sl bm (oS c) (c.delta - 1), sl bm (oL c) c.delta, sl bm (oE c) c.delta, sl bm (oV c) (c.delta - 1), .slice (some ⟨bm, oP c, none⟩) (c.delta - 1) (c.delta - 1), .int .i64 ls, .int .i64 dg]

structure DkAt (c : Cd) (b bp bl bd bm : Nat) (lk ls dg : Int) (r : Nat → Nat) (w : World) : Prop where
  blk : w.heap[bd]? = some (.cells (dkCells c b bm lk ls dg) 125 (0, 0))
  fa : FieldAt c.G.m c.G.q b bp bl w
  row : NRow w bm (rN c) r
  ne : bd ≠ bm ∧ b ≠ bm ∧ bp ≠ bm ∧ bl ≠ bm ∧ b ≠ bd ∧ bp ≠ bd ∧ bl ≠ bd
  el : ∀ i, i < rN c → c.G.El (r i)

section
variable {c : Cd} {b bp bl bd bm : Nat} {lk ls dg : Int} {r : Nat → Nat} {w w' : World}
theorem DkAt.cell (h : DkAt c b bp bl bd bm lk ls dg r w) (i : Nat) : w.cell? ⟨bd, i, none⟩ = (dkCells c b bm lk ls dg)[i]? := by simp [World.cell?, h.blk]
theorem DkAt.x0 (h : DkAt c b bp bl bd bm lk ls dg r w) : w.cell? ⟨bd, 0, none⟩ = some (.func (.func 56) #[.pointer (some ⟨b, 0, none⟩)] #[]) := by rw [h.cell]; rfl
theorem DkAt.x1 (h : DkAt c b bp bl bd bm lk ls dg r w) : w.cell? ⟨bd, 1, none⟩ = some (.func (.func 57) #[.pointer (some ⟨b, 0, none⟩)] #[]) := by rw [h.cell]; rfl
theorem DkAt.x2 (h : DkAt c b bp bl bd bm lk ls dg r w) : w.cell? ⟨bd, 2, none⟩ = some (.func (.func 56) #[.pointer (some ⟨b, 0, none⟩)] #[]) := by rw [h.cell]; rfl
theorem DkAt.x3 (h : DkAt c b bp bl bd bm lk ls dg r w) : w.cell? ⟨bd, 3, none⟩ = some (.func (.func 57) #[.pointer (some ⟨b, 0, none⟩)] #[]) := by rw [h.cell]; rfl
theorem DkAt.x4 (h : DkAt c b bp bl bd bm lk ls dg r w) : w.cell? ⟨bd, 4, none⟩ = some (.func (.func 84) #[.pointer (some ⟨b, 0, none⟩)] #[]) := by rw [h.cell]; rfl
theorem DkAt.x5 (h : DkAt c b bp bl bd bm lk ls dg r w) : w.cell? ⟨bd, 5, none⟩ = some (.func (.func 61) #[.pointer (some ⟨b, 0, none⟩)] #[]) := by rw [h.cell]; rfl
theorem DkAt.x6 (h : DkAt c b bp bl bd bm lk ls dg r w) : w.cell? ⟨bd, 6, none⟩ = some (.func (.func (chkF c.bin)) #[.pointer (some ⟨b, 0, none⟩)] #[]) := by rw [h.cell]; rfl
theorem DkAt.x7 (h : DkAt c b bp bl bd bm lk ls dg r w) : w.cell? ⟨bd, 7, none⟩ = some (.int .i64 (c.first : Int)) := by rw [h.cell]; rfl
theorem DkAt.x8 (h : DkAt c b bp bl bd bm lk ls dg r w) : w.cell? ⟨bd, 8, none⟩ = some (.int .i64 (c.delta : Int)) := by rw [h.cell]; rfl
theorem DkAt.x9 (h : DkAt c b bp bl bd bm lk ls dg r w) : w.cell? ⟨bd, 9, none⟩ = some (.int .i64 (c.short : Int)) := by rw [h.cell]; rfl
theorem DkAt.x10 (h : DkAt c b bp bl bd bm lk ls dg r w) : w.cell? ⟨bd, 10, none⟩ = some (.int .i64 (c.cut : Int)) := by rw [h.cell]; rfl
theorem DkAt.x11 (h : DkAt c b bp bl bd bm lk ls dg r w) : w.cell? ⟨bd, 11, none⟩ = some (.int .i32 lk) := by rw [h.cell]; rfl
theorem DkAt.x13 (h : DkAt c b bp bl bd bm lk ls dg r w) : w.cell? ⟨bd, 13, none⟩ = some (.slice (some ⟨bm, 0, none⟩) (rN c) (rN c)) := by rw [h.cell]; rfl
theorem DkAt.x14 (h : DkAt c b bp bl bd bm lk ls dg r w) : w.cell? ⟨bd, 14, none⟩ = some (.slice (some ⟨bm, 0, none⟩) c.n c.n) := by rw [h.cell]; rfl
theorem DkAt.x15 (h : DkAt c b bp bl bd bm lk ls dg r w) : w.cell? ⟨bd, 15, none⟩ = some (.slice (some ⟨bm, c.n, none⟩) c.n c.n) := by rw [h.cell]; rfl
theorem DkAt.x16 (h : DkAt c b bp bl bd bm lk ls dg r w) : w.cell? ⟨bd, 16, none⟩ = some (.slice (some ⟨bm, oS c, none⟩) (c.delta - 1) (c.delta - 1)) := by rw [h.cell]; rfl
theorem DkAt.x17 (h : DkAt c b bp bl bd bm lk ls dg r w) : w.cell? ⟨bd, 17, none⟩ = some (.slice (some ⟨bm, oL c, none⟩) c.delta c.delta) := by rw [h.cell]; rfl
theorem DkAt.x18 (h : DkAt c b bp bl bd bm lk ls dg r w) : w.cell? ⟨bd, 18, none⟩ = some (.slice (some ⟨bm, oE c, none⟩) c.delta c.delta) := by rw [h.cell]; rfl
theorem DkAt.x19 (h : DkAt c b bp bl bd bm lk ls dg r w) : w.cell? ⟨bd, 19, none⟩ = some (.slice (some ⟨bm, oV c, none⟩) (c.delta - 1) (c.delta - 1)) := by rw [h.cell]; rfl
theorem DkAt.x20 (h : DkAt c b bp bl bd bm lk ls dg r w) : w.cell? ⟨bd, 20, none⟩ = some (.slice (some ⟨bm, oP c, none⟩) (c.delta - 1) (c.delta - 1)) := by rw [h.cell]; rfl
theorem DkAt.x21 (h : DkAt c b bp bl bd bm lk ls dg r w) : w.cell? ⟨bd, 21, none⟩ = some (.int .i64 ls) := by rw [h.cell]; rfl
theorem DkAt.x22 (h : DkAt c b bp bl bd bm lk ls dg r w) : w.cell? ⟨bd, 22, none⟩ = some (.int .i64 dg) := by rw [h.cell]; rfl
theorem DkAt.fz (h : DkAt c b bp bl bd bm lk ls dg r w) (i : Nat) : w.frozen? ⟨bd, i, none⟩ = false := by simp [World.frozen?, h.blk]
theorem DkAt.lt (h : DkAt c b bp bl bd bm lk ls dg r w) : bd < w.heap.size := (Array.getElem?_eq_some_iff.1 h.blk).1
theorem DkAt.ltm (h : DkAt c b bp bl bd bm lk ls dg r w) : bm < w.heap.size := World.rowIs.lt h.row
theorem DkAt.at (h : DkAt c b bp bl bd bm lk ls dg r w) {i : Nat} (hi : i < rN c) : w.cell? ⟨bm, i, none⟩ = some (.int .i64 ((r i : Nat) : Int)) := NRow.cell h.row hi
theorem DkAt.fzm (h : DkAt c b bp bl bd bm lk ls dg r w) (i : Nat) : w.frozen? ⟨bm, i, none⟩ = false := NRow.frozen h.row i
theorem DkAt.of (h : DkAt c b bp bl bd bm lk ls dg r w) (e0 : w'.heap[bd]? = w.heap[bd]?) (e1 : w'.heap[b]? = w.heap[b]?) (e2 : w'.heap[bp]? = w.heap[bp]?) (e3 : w'.heap[bl]? = w.heap[bl]?) (e4 : w'.heap[bm]? = w.heap[bm]?) : DkAt c b bp bl bd bm lk ls dg r w' :=
  ⟨e0.trans h.blk, h.fa.of e1 e2 e3, World.rowIs.of_block h.row e4, h.ne, h.el⟩
theorem DkAt.below (h : DkAt c b bp bl bd bm lk ls dg r w) (hb : Below w.heap.size w w') : DkAt c b bp bl bd bm lk ls dg r w' :=
  h.of (hb.block _ h.lt) (hb.block _ (lt_of_cell h.fa.c0)) (hb.block _ h.fa.pows.lt) (hb.block _ h.fa.logs.lt) (hb.block _ h.ltm)
theorem DkAt.heap (h : DkAt c b bp bl bd bm lk ls dg r w) (e : w'.heap = w.heap) : DkAt c b bp bl bd bm lk ls dg r w' := h.of (by rw [e]) (by rw [e]) (by rw [e]) (by rw [e]) (by rw [e])
theorem DkAt.congr (h : DkAt c b bp bl bd bm lk ls dg r w) {r' : Nat → Nat} (e : ∀ i, i < rN c → r i = r' i) : DkAt c b bp bl bd bm lk ls dg r' w :=
  ⟨h.blk, h.fa, NRow.congr h.row e, h.ne, fun i hi => by rw [← e i hi]; exact h.el i hi⟩
/-- the room has been written by one that keeps all else. -/
theorem DkAt.rowed (h : DkAt c b bp bl bd bm lk ls dg r w) {r' : Nat → Nat} (ho : Out (fun k => k = bm) w w') (hr : NRow w' bm (rN c) r') (he : ∀ i, i < rN c → c.G.El (r' i)) : DkAt c b bp bl bd bm lk ls dg r' w' := by
  obtain ⟨n0, n1, n2, n3, n4, n5, n6⟩ := h.ne
  exact ⟨(ho.block _ h.lt n0).trans h.blk, h.fa.of (ho.block _ (lt_of_cell h.fa.c0) n1) (ho.block _ h.fa.pows.lt n2) (ho.block _ h.fa.logs.lt n3), hr, h.ne, he⟩
/-- one cell of the room is set. -/
theorem DkAt.set (h : DkAt c b bp bl bd bm lk ls dg r w) (k x : Nat) (hx : c.G.El x) : DkAt c b bp bl bd bm lk ls dg (fun i => if i = k then x else r i) (w.setCell ⟨bm, k, none⟩ (.int .i64 x)) :=
  h.rowed (Out.set (D := fun j => j = bm) (Out.of_below (Below.refl _ _)) (p := ⟨bm, k, none⟩) rfl _) (NRow.set h.row k x fun _ _ => rfl) (fun i hi => by
    show c.G.El (if i = k then x else r i)
    split
    · exact hx
    · exact h.el i hi)
theorem DkAt.own (h : DkAt c b bp bl bd bm lk ls dg r w) {lk' ls' dg' : Int} (k : Nat) (v : Value) (hv : (dkCells c b bm lk ls dg).setIfInBounds k v = dkCells c b bm lk' ls' dg') : DkAt c b bp bl bd bm lk' ls' dg' r (w.setCell ⟨bd, k, none⟩ v) := by
  obtain ⟨n0, n1, n2, n3, n4, n5, n6⟩ := h.ne
  refine ⟨by rw [heap_setCell_same h.blk, hv], h.fa.of ?_ ?_ ?_, World.rowIs.of_block h.row ?_, h.ne, h.el⟩
  · exact blk_setCell_other _ _ _ _ n4
  · exact blk_setCell_other _ _ _ _ n5
  · exact blk_setCell_other _ _ _ _ n6
  · exact blk_setCell_other _ _ _ _ (Ne.symm n0)
theorem DkAt.setLk (h : DkAt c b bp bl bd bm lk ls dg r w) (x : Int) : DkAt c b bp bl bd bm x ls dg r (w.setCell ⟨bd, 11, none⟩ (.int .i32 x)) := h.own 11 _ rfl
theorem DkAt.setLs (h : DkAt c b bp bl bd bm lk ls dg r w) (x : Int) : DkAt c b bp bl bd bm lk x dg r (w.setCell ⟨bd, 21, none⟩ (.int .i64 x)) := h.own 21 _ rfl
theorem DkAt.setDg (h : DkAt c b bp bl bd bm lk ls dg r w) (x : Int) : DkAt c b bp bl bd bm lk ls x r (w.setCell ⟨bd, 22, none⟩ (.int .i64 x)) := h.own 22 _ rfl
/-- the desk is all that has turned. -/
def Dsk (bd bm : Nat) : Nat → Prop := fun k => k = bd ∨ k = bm
theorem Out.mono {D E : Nat → Prop} (h : Out D w w') (hD : ∀ k, D k → E k) : Out E w w' := ⟨h.os, h.tape, h.output, h.size, fun k hk he => h.block k hk fun hd => he (hD k hd)⟩
end
end Go.Proofs.YtnpkkcbadcmgkaaGreatDoor

namespace Go.Proofs.YtnpkkcbadcmgkaaGreatDoor
open Go.RowKit Go.Deep
open Gf (Cd)

/-! ### many cells at once -/
theorem NRow.cells {b N : Nat} : ∀ (vs : List Nat) (o : Nat) {w : World} {f : Nat → Nat}, NRow w b N f → NRow (w.setCells b o (ints vs)) b N (fun i => if o ≤ i ∧ i < o + vs.length then vs.getD (i - o) 0 else f i)
  | [], o, w, f, h => NRow.congr (f := f) h (fun i _ => by rw [if_neg (fun hh => by have h2 := hh.1; have h3 : i < o + 0 := hh.2; omega)])
  | v :: vs, o, w, f, h => by
    have h1 := NRow.cells vs (o + 1) (NRow.set h o v (g := fun i => if i = o then v else f i) (fun _ _ => rfl))
    refine NRow.congr h1 fun i _ => ?_
    by_cases e : i = o
    · subst e
      rw [if_neg (by omega), if_pos rfl, if_pos (by simp), Nat.sub_self, List.getD_cons_zero]
    · by_cases e2 : o ≤ i ∧ i < o + (v :: vs).length
      · have e3 : o + 1 ≤ i ∧ i < o + 1 + vs.length := by simp at e2; omega
        rw [if_pos e2, if_pos e3]
        obtain ⟨j, rfl⟩ : ∃ j, i = o + 1 + j := ⟨i - (o + 1), by omega⟩
        have a1 : o + 1 + j - (o + 1) = j := by omega
        have a2 : o + 1 + j - o = j + 1 := by omega
        rw [a1, a2, List.getD_cons_succ]
      · rw [if_neg e2, if_neg (by simp at e2; omega), if_neg e]
theorem Out.cells {b : Nat} {w0 : World} : ∀ (vs : List Value) (o : Nat) {w : World}, Out (fun k => k = b) w0 w → Out (fun k => k = b) w0 (w.setCells b o vs)
  | [], _, _, h => h
  | v :: vs, o, _, h => Out.cells vs (o + 1) (h.set (p := ⟨b, o, none⟩) rfl v)

/-- copy within rows of ints: all is read ahead. -/
theorem copy_row (w : World) (b o dLen dCap bs os sLen sCap N : Nat) (f : Nat → Nat) (cs : List Nat) (h : NRow w b N f) (hn : cs.length = Nat.min sLen dLen)
    (hsrc : ∀ i, i < cs.length → w.cell? ⟨bs, os + i, none⟩ = some (.int .i64 ((cs.getD i 0 : Nat) : Int))) (hfit : o + cs.length ≤ N) :
    (Builtin.copy_ #[24, 24] 3 #[.slice (some ⟨b, o, none⟩) dLen dCap, .slice (some ⟨bs, os, none⟩) sLen sCap]).run Tryz.prog w = .ok (.int .i64 (cs.length : Int)) (w.setCells b o (ints cs)) := by
  have h1 := run_copy_cells (P := Tryz.prog) w 24 24 3 3 b o dLen dCap ⟨bs, os, none⟩ sLen sCap (ints cs) Tryz.underlying24 (by kernel_rfl) (by rw [ints_length]; exact hn) (ints_cells hsrc)
    (fun j hj => by rw [ints_length] at hj; rw [NRow.cell h (show o + j < N by omega)]; rfl) (fun j _ => NRow.frozen h _) (fun v hv => mem_ints hv)
  rw [ints_length] at h1
  exact h1
/-- clear of a row of ints. -/
theorem clear_row (w : World) (b N ty : Nat) (f : Nat → Nat) (h : NRow w b N f) (hN : 0 < N) (cap : Nat) :
    (Builtin.clear_ #[24] ty #[.slice (some ⟨b, 0, none⟩) N cap]).run Tryz.prog w = .ok (.tuple #[]) (w.setCells b 0 (ints (List.replicate N 0))) := by
  have h1 := Lib.run_clear_slice (P := Tryz.prog) w 24 3 ty (.int .i64 0) Tryz.underlying24 (fun wx => by kernel_rfl) rfl rfl b 0 N cap hN (fun j hj => by rw [NRow.cell h (show 0 + j < N by omega)]; rfl) (fun j _ => NRow.frozen h _)
  have e : ints (List.replicate N 0) = List.replicate N (.int .i64 0) := by simp [ints]
  rw [e]
  exact h1
end Go.Proofs.YtnpkkcbadcmgkaaGreatDoor

namespace Go.Proofs.YtnpkkcbadcmgkaaGreatDoor
open Go.RowKit Go.Deep
open Gf (Cd)

/-! ### The desk is laid out -/
set_option maxHeartbeats 1000000 in
theorem part_any (bm o n k : Nat) (w : World) (hk0 : 0 < k) (hk : k ≤ n) (hn : n < 4096) :
    Calls Tryz.prog 101 #[.slice (some ⟨bm, o, none⟩) n n, .int .i64 (k : Int)] w fun e w' => ∃ v, e = .returned (.tuple #[.slice (some ⟨bm, o, none⟩) k k, v]) ∧ (k < n → v = .slice (some ⟨bm, o + k, none⟩) (n - k) (n - k)) ∧ ∃ d, w' = w.drewN d := by
  have b1 : (k : Int) ≤ (n : Int) := by omega
  have b2 : (0 : Int) ≤ (k : Int) := by omega
  by_cases hkn : k < n
  · have b3 : ¬ n = k := by omega
    go_enter Tryz.func101, Tryz.ntmps101
    go_wp2
    go_quiet (fail)
    go_wp2
    go_ret2
    exact ⟨_, rfl, fun _ => rfl, nq, rfl⟩
  · have e : k = n := by omega
    subst e
    clear hk hkn
    go_enter Tryz.func101, Tryz.ntmps101
    go_wp2
    go_quiet (fail)
    go_wp2
    go_ret2
    exact ⟨_, rfl, fun h => absurd h (Nat.lt_irrefl _), nq, rfl⟩

/-- the decoder's cells while it is laid out: k of its lists stand. -/
def rawC (c : Cd) (b bm k : Nat) : Array Value :=
  #[fP b, fT b, fP b, fT b, fI b, fW b, fC c b, .int .i64 (c.first : Int), .int .i64 (c.delta : Int), .int .i64 (c.short : Int), .int .i64 (c.cut : Int), .int .i32 0, .int .u32 0,
    if 0 < k then sl bm 0 (rN c) else .slice none 0 0, if 1 < k then sl bm 0 c.n else .slice none 0 0, if 2 < k then sl bm c.n c.n else .slice none 0 0, if 3 < k then sl bm (oS c) (c.delta - 1) else .slice none 0 0, if 4 < k then sl bm (oL c) c.delta else .slice none 0 0, if 5 < k then sl bm (oE c) c.delta else .slice none 0 0, if 6 < k then sl bm (oV c) (c.delta - 1) else .slice none 0 0, if 7 < k then sl bm (oP c) (c.delta - 1) else .slice none 0 0, .int .i64 0, .int .i64 0]
/-- where layOut stands. -/
structure LyK (c : Cd) (b bd bm k : Nat) (w0 w : World) : Prop where
  blk : w.heap[bd]? = some (.cells (rawC c b bm k) 125 (0, 0))
  row : NRow w bm (rN c) (fun _ => 0)
  out : Out (fun k => k = bd) w0 w
  ne : bd ≠ bm
section
variable {c : Cd} {b bd bm k : Nat} {w0 w : World}
theorem LyK.x8 (h : LyK c b bd bm k w0 w) : w.cell? ⟨bd, 8, none⟩ = some (.int .i64 (c.delta : Int)) := by simp [World.cell?, h.blk, rawC]
theorem LyK.fz (h : LyK c b bd bm k w0 w) (i : Nat) : w.frozen? ⟨bd, i, none⟩ = false := by simp [World.frozen?, h.blk]
theorem LyK.some (h : LyK c b bd bm k w0 w) (i : Nat) (hi : i < 23) : ∃ v, w.cell? ⟨bd, i, none⟩ = some v := by
  have : w.cell? ⟨bd, i, none⟩ = (rawC c b bm k)[i]? := by simp [World.cell?, h.blk]
  rw [this]
  exact ⟨(rawC c b bm k)[i]'hi, Array.getElem?_eq_getElem hi⟩
theorem LyK.step (h : LyK c b bd bm k w0 w) (d : Nat) {k' : Nat} (i : Nat) (v : Value) (hv : (rawC c b bm k).setIfInBounds i v = rawC c b bm k') : LyK c b bd bm k' w0 ((w.drewN d).setCell ⟨bd, i, none⟩ v) :=
  ⟨by rw [heap_setCell_same (w := w.drewN d) h.blk, hv], World.rowIs.of_block h.row (blk_setCell_other _ _ _ _ (Ne.symm h.ne)), (h.out.trans (Out.of_below (below_of_drewN _ _ _))).set (p := ⟨bd, i, none⟩) rfl v, h.ne⟩
end

theorem slice_eq {bm o o' n n' : Nat} (h1 : o = o') (h2 : n = n') : Value.slice (some ⟨bm, o, none⟩) n n = .slice (some ⟨bm, o', none⟩) n' n' := by rw [h1, h2]
set_option maxRecDepth 100000 in
set_option maxHeartbeats 8000000 in
theorem layOut_any (c : Cd) (b bd : Nat) (w : World) (ok : c.Ok) (hn : c.n < 256) (h : w.heap[bd]? = some (.cells (rawC c b 0 0) 125 (0, 0))) :
    Calls Tryz.prog 85 #[.pointer (some ⟨bd, 0, none⟩), .int .i64 (c.n : Int)] w fun e w' => (∃ r, e = .returned r) ∧ ∃ bm, w.heap.size ≤ bm ∧ LyK c b bd bm 8 w w' := by
  obtain ⟨o1, o2, o3, o4, o5, o6⟩ : c.n + c.n = oS c ∧ oS c + (c.delta - 1) = oL c ∧ oL c + c.delta = oE c ∧ oE c + c.delta = oV c ∧ oV c + (c.delta - 1) = oP c ∧ oP c + (c.delta - 1) = rN c := by
    unfold oS oL oE oV oP rN; omega
  have hd2 := ok.d2
  have hdn := ok.dn
  have hn3 := Gf.n_pos c
  have hrN : rN c < 4096 := by omega
  have hbd : bd < w.heap.size := (Array.getElem?_eq_some_iff.1 h).1
  have x8 : w.cell? ⟨bd, 8, none⟩ = some (.int .i64 (c.delta : Int)) := by simp [World.cell?, h, rawC]
  have x13 : w.cell? ⟨bd, 13, none⟩ = some (.slice none 0 0) := by simp [World.cell?, h, rawC]
  have f13 : w.frozen? ⟨bd, 13, none⟩ = false := by simp [World.frozen?, h]
  have q1 : IntKind.i64.wrap (2 * (c.n : Int)) = 2 * (c.n : Int) := wrap_small (by omega) (by omega)
  have q2 : IntKind.i64.wrap (2 * (c.delta : Int)) = 2 * (c.delta : Int) := wrap_small (by omega) (by omega)
  have q3 : IntKind.i64.wrap (2 * (c.n : Int) + 2 * (c.delta : Int)) = 2 * (c.n : Int) + 2 * (c.delta : Int) := wrap_small (by omega) (by omega)
  have q4 : IntKind.i64.wrap ((c.delta : Int) - 1) = ((c.delta - 1 : Nat) : Int) := by rw [wrap_small (by omega) (by omega)]; omega
  have q5 : IntKind.i64.wrap (3 * ((c.delta - 1 : Nat) : Int)) = 3 * ((c.delta - 1 : Nat) : Int) := wrap_small (by omega) (by omega)
  have q6 : IntKind.i64.wrap (2 * (c.n : Int) + 2 * (c.delta : Int) + 3 * ((c.delta - 1 : Nat) : Int)) = (rN c : Int) := by rw [wrap_small (by omega) (by omega)]; omega
  have mk := fun (wx : World) => run_make_row' (P := Tryz.prog) 24 3 (.int .i64 0) 8 Tryz.underlying24 (show (Tryz.prog.info? 3).map (fun i => (i.zero, i.size, i.bytes)) = some (some (.int .i64 0), 1, 8) by kernel_rfl) rfl .i64 .i64 (rN c) (by omega) (by omega) wx
  have H := hide h
  clear h ok
  go_enter Tryz.func85, Tryz.ntmps85
  go_wp2
  go_region
  have hsz : (w.setCell ⟨bd, 13, none⟩ (sl w.heap.size 0 (rN c))).heap.size = w.heap.size := by simp [World.setCell]
  have K1 : LyK c b bd w.heap.size 1 w (((w.setCell ⟨bd, 13, none⟩ (sl w.heap.size 0 (rN c))).alloc (.cells (madeCells #[.int .i64 0] (rN c)) 3)).drew) := by
    have hA := (Below.refl (w.setCell ⟨bd, 13, none⟩ (sl w.heap.size 0 (rN c))).heap.size (w.setCell ⟨bd, 13, none⟩ (sl w.heap.size 0 (rN c)))).alloc (Nat.le_refl _) (.cells (madeCells #[.int .i64 0] (rN c)) 3)
    have hR := World.rowIs_made (w.setCell ⟨bd, 13, none⟩ (sl w.heap.size 0 (rN c))) (.int .i64 0) (rN c) 3
    rw [hsz] at hR
    refine ⟨?_, World.rowIs.of_block hR rfl, ?_, by omega⟩
    · show (((w.setCell ⟨bd, 13, none⟩ (sl w.heap.size 0 (rN c))).alloc (.cells (madeCells #[.int .i64 0] (rN c)) 3))).heap[bd]? = _
      rw [hA.block bd (by rw [hsz]; exact hbd), heap_setCell_same (unhide H) 13 (sl w.heap.size 0 (rN c))]
      rfl
    · exact ((Out.set (D := fun k => k = bd) (Out.of_below (Below.refl w.heap.size w)) (p := ⟨bd, 13, none⟩) rfl _).trans (Out.of_below hA)).trans (Out.of_below (below_of_drewN _ _ 1))
  have HK := hide K1
  have hbm := hide (Nat.le_refl w.heap.size)
  have eW : sl w.heap.size 0 (rN c) = .slice (some ⟨w.heap.size, 0, none⟩) (rN c) (rN c) := rfl
  rw [eW] at HK
  clear K1 hsz eW H x8 x13 f13 q1 q2 q3 q5 q6 mk
  have x13 := (show LyK c b bd w.heap.size 1 w _ from unhide HK)
  have x13' : (((w.setCell ⟨bd, 13, none⟩ (.slice (some ⟨w.heap.size, 0, none⟩) (rN c) (rN c))).alloc (.cells (madeCells #[.int .i64 0] (rN c)) 3)).drew).cell? ⟨bd, 13, none⟩ = some (.slice (some ⟨w.heap.size, 0, none⟩) (rN c) (rN c)) := by simp [World.cell?, x13.blk, rawC, sl]
  clear x13
  generalize ((w.setCell ⟨bd, 13, none⟩ (.slice (some ⟨w.heap.size, 0, none⟩) (rN c) (rN c))).alloc (.cells (madeCells #[.int .i64 0] (rN c)) 3)).drew = w1 at *
  obtain ⟨bm, hbm'⟩ : ∃ bm, bm = w.heap.size := ⟨_, rfl⟩
  rw [← hbm'] at HK x13' hbm ⊢
  have HBM := hide hbm'
  clear hbm' hbm hbd
  go_wp2_with fail
  have x8 := (unhide HK).x8
  obtain ⟨vv, zv⟩ := (unhide HK).some 14 (by decide)
  have zf := (unhide HK).fz 14
  refine (part_any bm 0 (rN c) c.n w1 (by omega) (by omega) (by omega)).mono ?_
  rintro e wq ⟨v, rfl, hv, d, rfl⟩
  obtain rfl : v = .slice (some ⟨bm, c.n, none⟩) (rN c - c.n) (rN c - c.n) := (hv (by omega)).trans (slice_eq (by omega) (by omega))
  have HK1 : Hid (LyK c b bd bm 2 w ((w1.drewN d).setCell ⟨bd, 14, none⟩ (.slice (some ⟨bm, 0, none⟩) c.n c.n))) := (unhide HK).step d (k' := 2) 14 (.slice (some ⟨bm, 0, none⟩) c.n c.n) rfl
  clear hv x13' HK
  go_wp2_with fail
  generalize (w1.drewN d).setCell ⟨bd, 14, none⟩ (.slice (some ⟨bm, 0, none⟩) c.n c.n) = w2 at *
  clear x8 zv zf
  have x8 := (unhide HK1).x8
  obtain ⟨vv, zv⟩ := (unhide HK1).some 15 (by decide)
  have zf := (unhide HK1).fz 15
  refine (part_any bm c.n (rN c - c.n) c.n w2 (by omega) (by omega) (by omega)).mono ?_
  rintro e wq ⟨v, rfl, hv, d, rfl⟩
  obtain rfl : v = .slice (some ⟨bm, oS c, none⟩) (rN c - oS c) (rN c - oS c) := (hv (by omega)).trans (slice_eq (by omega) (by omega))
  have HK2 : Hid (LyK c b bd bm 3 w ((w2.drewN d).setCell ⟨bd, 15, none⟩ (.slice (some ⟨bm, c.n, none⟩) c.n c.n))) := (unhide HK1).step d (k' := 3) 15 (.slice (some ⟨bm, c.n, none⟩) c.n c.n) rfl
  clear hv HK1
  go_wp2_with fail
  generalize (w2.drewN d).setCell ⟨bd, 15, none⟩ (.slice (some ⟨bm, c.n, none⟩) c.n c.n) = w3 at *
  clear x8 zv zf
  have x8 := (unhide HK2).x8
  obtain ⟨vv, zv⟩ := (unhide HK2).some 16 (by decide)
  have zf := (unhide HK2).fz 16
  refine (part_any bm (oS c) (rN c - oS c) (c.delta - 1) w3 (by omega) (by omega) (by omega)).mono ?_
  rintro e wq ⟨v, rfl, hv, d, rfl⟩
  obtain rfl : v = .slice (some ⟨bm, oL c, none⟩) (rN c - oL c) (rN c - oL c) := (hv (by omega)).trans (slice_eq (by omega) (by omega))
  have HK3 : Hid (LyK c b bd bm 4 w ((w3.drewN d).setCell ⟨bd, 16, none⟩ (.slice (some ⟨bm, oS c, none⟩) (c.delta - 1) (c.delta - 1)))) := (unhide HK2).step d (k' := 4) 16 (.slice (some ⟨bm, oS c, none⟩) (c.delta - 1) (c.delta - 1)) rfl
  clear hv HK2
  go_wp2_with fail
  generalize (w3.drewN d).setCell ⟨bd, 16, none⟩ (.slice (some ⟨bm, oS c, none⟩) (c.delta - 1) (c.delta - 1)) = w4 at *
  clear x8 zv zf
  have x8 := (unhide HK3).x8
  obtain ⟨vv, zv⟩ := (unhide HK3).some 17 (by decide)
  have zf := (unhide HK3).fz 17
  refine (part_any bm (oL c) (rN c - oL c) c.delta w4 (by omega) (by omega) (by omega)).mono ?_
  rintro e wq ⟨v, rfl, hv, d, rfl⟩
  obtain rfl : v = .slice (some ⟨bm, oE c, none⟩) (rN c - oE c) (rN c - oE c) := (hv (by omega)).trans (slice_eq (by omega) (by omega))
  have HK4 : Hid (LyK c b bd bm 5 w ((w4.drewN d).setCell ⟨bd, 17, none⟩ (.slice (some ⟨bm, oL c, none⟩) c.delta c.delta))) := (unhide HK3).step d (k' := 5) 17 (.slice (some ⟨bm, oL c, none⟩) c.delta c.delta) rfl
  clear hv HK3
  go_wp2_with fail
  generalize (w4.drewN d).setCell ⟨bd, 17, none⟩ (.slice (some ⟨bm, oL c, none⟩) c.delta c.delta) = w5 at *
  clear x8 zv zf
  have x8 := (unhide HK4).x8
  obtain ⟨vv, zv⟩ := (unhide HK4).some 18 (by decide)
  have zf := (unhide HK4).fz 18
  refine (part_any bm (oE c) (rN c - oE c) c.delta w5 (by omega) (by omega) (by omega)).mono ?_
  rintro e wq ⟨v, rfl, hv, d, rfl⟩
  obtain rfl : v = .slice (some ⟨bm, oV c, none⟩) (rN c - oV c) (rN c - oV c) := (hv (by omega)).trans (slice_eq (by omega) (by omega))
  have HK5 : Hid (LyK c b bd bm 6 w ((w5.drewN d).setCell ⟨bd, 18, none⟩ (.slice (some ⟨bm, oE c, none⟩) c.delta c.delta))) := (unhide HK4).step d (k' := 6) 18 (.slice (some ⟨bm, oE c, none⟩) c.delta c.delta) rfl
  clear hv HK4
  go_wp2_with fail
  generalize (w5.drewN d).setCell ⟨bd, 18, none⟩ (.slice (some ⟨bm, oE c, none⟩) c.delta c.delta) = w6 at *
  clear x8 zv zf
  have x8 := (unhide HK5).x8
  obtain ⟨vv, zv⟩ := (unhide HK5).some 19 (by decide)
  have zf := (unhide HK5).fz 19
  refine (part_any bm (oV c) (rN c - oV c) (c.delta - 1) w6 (by omega) (by omega) (by omega)).mono ?_
  rintro e wq ⟨v, rfl, hv, d, rfl⟩
  obtain rfl : v = .slice (some ⟨bm, oP c, none⟩) (rN c - oP c) (rN c - oP c) := (hv (by omega)).trans (slice_eq (by omega) (by omega))
  have HK6 : Hid (LyK c b bd bm 7 w ((w6.drewN d).setCell ⟨bd, 19, none⟩ (.slice (some ⟨bm, oV c, none⟩) (c.delta - 1) (c.delta - 1)))) := (unhide HK5).step d (k' := 7) 19 (.slice (some ⟨bm, oV c, none⟩) (c.delta - 1) (c.delta - 1)) rfl
  clear hv HK5
  go_wp2_with fail
  generalize (w6.drewN d).setCell ⟨bd, 19, none⟩ (.slice (some ⟨bm, oV c, none⟩) (c.delta - 1) (c.delta - 1)) = w7 at *
  clear x8 zv zf
  have x8 := (unhide HK6).x8
  obtain ⟨vv, zv⟩ := (unhide HK6).some 20 (by decide)
  have zf := (unhide HK6).fz 20
  refine (part_any bm (oP c) (rN c - oP c) (c.delta - 1) w7 (by omega) (by omega) (by omega)).mono ?_
  rintro e wq ⟨v, rfl, hv, d, rfl⟩
  have HK7 : Hid (LyK c b bd bm 8 w ((w7.drewN d).setCell ⟨bd, 20, none⟩ (.slice (some ⟨bm, oP c, none⟩) (c.delta - 1) (c.delta - 1)))) := (unhide HK6).step d (k' := 8) 20 (.slice (some ⟨bm, oP c, none⟩) (c.delta - 1) (c.delta - 1)) rfl
  clear hv HK6
  go_wp2
  go_end0
  exact ⟨⟨_, rfl⟩, bm, by rw [unhide HBM]; exact Nat.le_refl _, unhide HK7⟩

set_option maxRecDepth 100000 in
set_option maxHeartbeats 8000000 in
theorem newDecoder_any (c : Cd) (fb bp bl : Nat) (w : World) (ok : c.Ok) (hn : c.n < 256) (hF : FieldAt c.G.m c.G.q fb bp bl w) :
    Calls Tryz.prog 62 #[.pointer (some ⟨fb, 0, none⟩), .agg #[.func (.func 56) #[.pointer (some ⟨fb, 0, none⟩)] #[], .func (.func 57) #[.pointer (some ⟨fb, 0, none⟩)] #[]], .func (.func (chkF c.bin)) #[.pointer (some ⟨fb, 0, none⟩)] #[], pv c.G.m c.G.q c.first c.delta c.short c.cut c.bin] w fun e w' => ∃ bd bm, e = .returned (.pointer (some ⟨bd, 0, none⟩)) ∧ w.heap.size ≤ bd ∧ w.heap.size ≤ bm ∧ DkAt c fb bp bl bd bm 0 0 0 (fun _ => 0) w' ∧ Below w.heap.size w w' := by
  have hmf : ∀ (fn : Fn) (first cap : Array Value) (w : World), (Instr.makeFunc fn first cap).run Tryz.prog w = .ok (.func fn first cap) w := fun _ _ _ _ => rfl
  have hU := hide (fun wx (hx : FieldAt c.G.m c.G.q fb bp bl wx) => funits_any c.G.m c.G.q fb bp bl wx hx)
  have hLy := hide (fun bd wx (hx : wx.heap[bd]? = some (.cells (rawC c fb 0 0) 125 (0, 0))) => layOut_any c fb bd wx ok hn hx)
  have HF := hide hF
  have hlt := hide (show fb < w.heap.size ∧ bp < w.heap.size ∧ bl < w.heap.size from ⟨lt_of_cell hF.c0, hF.pows.lt, hF.logs.lt⟩)
  clear hF ok
  generalize hcf : chkF c.bin = cf at *
  have HCF := hide hcf
  clear hcf
  go_enter Tryz.func62, Tryz.ntmps62
  go_wp2_with fail
  refine (unhide hU _ ((unhide HF).below ((((Below.refl _ _).alloc (Nat.le_refl _) _).alloc (by simp) _).alloc (by simp; omega) _))).mono ?_
  rintro e w' ⟨rfl, hww⟩
  obtain rfl := hww.symm
  have hGn : Gf.ordN c.G.m = c.n := rfl
  rw [hGn]
  clear hU hGn
  go_wp2_with fail
  refine (unhide hLy (w.heap.size + 1 + 1) _ ?_).mono ?_
  · rw [← unhide HCF]
    have h1 := heap_alloc_new ((w.alloc (.cells #[.func (.func 56) #[.pointer (some ⟨fb, 0, none⟩)] #[], .func (.func 57) #[.pointer (some ⟨fb, 0, none⟩)] #[]] 73)).alloc (.cells #[.int .i64 (c.G.m : Int), .int .i64 (c.G.q : Int), .int .i64 (c.first : Int), .int .i64 (c.delta : Int), .int .i64 (c.short : Int), .int .i64 (c.cut : Int), .bool c.bin] 48)) (.cells (rawC c fb 0 0) 125)
    rw [nblk_alloc, nblk_alloc] at h1
    exact h1
  rintro e w4 ⟨⟨rr, rfl⟩, bm, hbm, hK⟩
  obtain ⟨l0, l1, l2⟩ := unhide hlt
  have hbm2 : w.heap.size + 3 ≤ bm := by simpa [nblk_alloc] using hbm
  have hB := hide (Below.trans ((((Below.refl w.heap.size w).alloc (Nat.le_refl _) _).alloc (by simp) _).alloc (by simp; omega) _) (hK.out.below (B := w.heap.size) (fun k hk => by omega) (by simp; omega)))
  have HD := hide (show DkAt c fb bp bl (w.heap.size + 1 + 1) bm 0 0 0 (fun _ => 0) w4 from ⟨hK.blk, (unhide HF).of ((unhide hB).block _ l0) ((unhide hB).block _ l1) ((unhide hB).block _ l2), hK.row, ⟨hK.ne, by omega, by omega, by omega, by omega, by omega, by omega⟩, fun _ _ => c.G.El_zero⟩)
  have hbm' := hide (show w.heap.size ≤ bm by omega)
  clear hK hbm hbm2 l0 l1 l2 hLy
  go_wp2
  go_ret
  exact ⟨w.heap.size + 1 + 1, bm, rfl, by omega, unhide hbm', unhide HD, unhide hB⟩
end Go.Proofs.YtnpkkcbadcmgkaaGreatDoor
