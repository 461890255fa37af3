import Derived.Test.YtnpkkcbadcmgkaaGreatDoorWPg
namespace Go.Proofs.YtnpkkcbadcmgkaaGreatDoor
open Go.RowKit Go.Deep
open Gf (Cd)

theorem rd_nil (w : World) : Rd w (.slice none 0 0) [] := ⟨none, 0, rfl, by unfold maxLen; simp, fun i hi => by simp at hi⟩
theorem cap_self (a : Option Addr) (n : Nat) : CapOk (.slice a n n) := fun _ _ _ e => by cases e; exact Nat.le_refl _
theorem off_none (D : Nat → Prop) (n cap : Nat) : Off D (.slice none n cap) := fun _ _ _ _ _ e => by cases e
theorem off_ge {D : Nat → Prop} {b o n cap s : Nat} (hD : ∀ k, D k → k < s) (hb : s ≤ b) : Off D (.slice (some ⟨b, o, none⟩) n cap) := fun _ _ _ _ _ e hd => by
  cases e
  have := hD _ hd
  omega
theorem getD_replicate (n : Nat) (x : Int) (i : Nat) (h : i < n) : (List.replicate n x).getD i 0 = x := by
  rw [List.getD_eq_getElem?_getD, List.getElem?_replicate, if_pos h]; rfl
theorem row_zero_rd {w : World} {b n : Nat} (h : Row w b n (fun _ => 0)) (hm : n ≤ 256) : Rd w (.slice (some ⟨b, 0, none⟩) n n) (List.replicate n 0) := by
  have := Row.rd h 0 (List.replicate n 0) n (by simp) (by simp; unfold maxLen; omega) (fun i hi => by rw [getD_replicate n 0 i (by simpa using hi)])
  simpa using this

theorem Out.setNew {D : Nat → Prop} {w w' : World} (h : Out D w w') {p : Addr} (hp : w.heap.size ≤ p.block) (u : Value) : Out D w (w'.setCell p u) :=
  ⟨h.os, h.tape, h.output, by simpa [World.setCell] using h.size, fun k hk hD => (Below.heap_setCell w' p u k (by omega)).trans (h.block k hk hD)⟩

theorem encP_any {c : Cd} {l : List Int} {w w' : World} {e : Ending} (m3 : 3 ≤ c.G.m) (m8 : c.G.m ≤ 8) (ok : c.Ok) (h : EncP c l w w' e) :
    ∃ v i j l', e = .returned (.tuple #[v, .int .i64 i, .int .i64 j]) ∧ Rd w' v l' ∧ l'.length ≤ 256 := by
  rcases h with ⟨_, v, rfl, hr⟩ | ⟨hg, v, b, _, rfl, hr⟩
  · exact ⟨v, _, _, [], rfl, hr, by simp⟩
  · obtain ⟨h1, h2⟩ := given_ok.1 hg
    refine ⟨v, _, _, _, rfl, hr.rd, ?_⟩
    rw [List.length_map, Gf.word_length ok (nat_msg c h1 h2)]
    obtain ⟨hn1, hn2⟩ := Pre.nb (c := c) ⟨m3, m8, ok.f, ok.d2, ok.dn⟩
    omega

theorem Rd.new {D : Nat → Prop} {w0 w w' : World} {v : Value} {l : List Int} (h0 : Rd w0 v l) (h : Rd w v l) (hD : ∀ k, D k → w0.heap.size ≤ k) (ho : Out D w w') : Rd w' v l := by
  obtain ⟨a, cap, hv, hm, hc⟩ := h
  obtain ⟨a0, cap0, hv0, -, hc0⟩ := h0
  refine ⟨a, cap, hv, hm, fun i hi => ?_⟩
  obtain ⟨b, o, ha, hcell⟩ := hc i hi
  obtain ⟨b0, o0, ha0, hcell0⟩ := hc0 i hi
  rw [hv] at hv0
  cases hv0
  rw [ha] at ha0
  cases ha0
  refine ⟨b, o, ha, ho.cell hcell (fun hd => ?_)⟩
  have h1 := hD _ hd
  have h2 := lt_of_cell hcell0
  exact absurd h2 (Nat.not_lt.2 h1)
theorem Rd.nil_any {w w' : World} {v : Value} (h : Rd w v []) : Rd w' v [] := by
  obtain ⟨a, cap, hv, hm, -⟩ := h
  exact ⟨a, cap, hv, hm, fun i hi => by simp at hi⟩

/-- an answer's list: it is empty, or lies on block b. -/
def SpoL (w : World) (v : Value) (L : List Int) (b : Nat) : Prop := (L = [] ∧ Rd w v []) ∨ Wr w v L b
theorem SpoL.rd {w : World} {v : Value} {L : List Int} {b : Nat} (h : SpoL w v L b) : Rd w v L := by
  rcases h with ⟨rfl, h⟩ | h
  · exact h
  · exact h.rd
theorem SpoL.spo {w : World} {v : Value} {L : List Int} {b : Nat} (h : SpoL w v L b) : Spo w v b := by
  rcases h with ⟨rfl, h⟩ | h
  · exact Or.inl h
  · exact Or.inr ⟨_, h⟩
theorem SpoL.out {D : Nat → Prop} {w w' : World} {v : Value} {L : List Int} {b : Nat} (h : SpoL w v L b) (hD : ¬ D b) (ho : Out D w w') : SpoL w' v L b := by
  rcases h with ⟨rfl, h⟩ | h
  · exact Or.inl ⟨rfl, h.nil_any⟩
  · exact Or.inr (h.out hD ho)
theorem SpoL.below {w w' : World} {v : Value} {L : List Int} {b : Nat} (h : SpoL w v L b) (ho : Below w.heap.size w w') : SpoL w' v L b := h.out (D := fun _ => False) (fun h => h) (Out.of_below ho)

/-- the word that Encode answers; where it answers an error: no symbol. -/
def encL (c : Cd) (l : List Int) : List Int := if givenE c.G.m c.bin l (c.K - c.short) = 0 then (c.word (nat l)).map (fun x : Nat => (x : Int)) else []
def encE (c : Cd) (l : List Int) : Int := givenE c.G.m c.bin l (c.K - c.short)
def encAt (c : Cd) (l : List Int) : Int := givenAt c.G.m c.bin l (c.K - c.short)

theorem at_zero {m : Nat} {bin : Bool} {l : List Int} {k : Nat} (h : givenE m bin l k = 0) : givenAt m bin l k = 0 := by
  obtain ⟨h1, h2⟩ := given_ok.1 h
  unfold givenAt; rw [if_pos h1, if_pos h2]

theorem encP_L {c : Cd} {l : List Int} {w w' : World} {e : Ending} (h : EncP c l w w' e) :
    ∃ v b, e = .returned (.tuple #[v, .int .i64 (encE c l), .int .i64 (encAt c l)]) ∧ w.heap.size ≤ b ∧ SpoL w' v (encL c l) b := by
  rcases h with ⟨hg, v, rfl, hr⟩ | ⟨hg, v, b, hb, rfl, hr⟩
  · exact ⟨v, w.heap.size, rfl, Nat.le_refl _, Or.inl ⟨by unfold encL; rw [if_neg hg], hr⟩⟩
  · refine ⟨v, b, ?_, hb, Or.inr (by unfold encL; rw [if_pos hg]; exact hr)⟩
    unfold encE encAt; rw [hg, at_zero hg]
theorem encIs_L {c : Cd} {l : List Int} {s : Nat} {w' : World} {e : Ending} (h : EncIs c l s w' e) :
    ∃ v, e = .returned (.tuple #[v, .int .i64 (encE c l), .int .i64 (encAt c l)]) ∧ Rd w' v (encL c l) ∧ Off (fun k => k < s) v := by
  rcases h with ⟨hg, rfl⟩ | ⟨hg, b, cap, hb, rfl, hr⟩
  · exact ⟨_, rfl, by unfold encL; rw [if_neg hg]; exact rd_nil _, off_none _ _ _⟩
  · refine ⟨_, ?_, by unfold encL; rw [if_pos hg]; exact hr, fun _ _ _ _ _ e => by cases e; omega⟩
    unfold encE encAt; rw [hg, at_zero hg]

end Go.Proofs.YtnpkkcbadcmgkaaGreatDoor

namespace Go.Proofs.YtnpkkcbadcmgkaaGreatDoor
open Go.RowKit Go.Deep
open Gf (Cd)

/-- the numbers as ints. -/
abbrev zs (l : List Nat) : List Int := l.map fun x : Nat => (x : Int)

theorem nat_zs (L : List Nat) : nat (zs L) = L := by
  unfold nat zs
  rw [List.map_map]
  refine (List.map_congr_left (g := id) fun x _ => ?_).trans (List.map_id _)
  show ((x : Int)).toNat = x
  omega
theorem zs_take (L : List Nat) (k : Nat) : (zs L).take k = zs (L.take k) := by unfold zs; rw [List.map_take]

theorem sy_symB {c : Cd} {a : Nat} (h : c.Sy a) : symB c.G.m c.bin (a : Int) = true := by
  have h1 : a < 2 ^ c.G.m := h.1
  have h3 : ((2 ^ c.G.m : Nat) : Int) = (2 : Int) ^ c.G.m := by simp
  unfold symB
  rw [Bool.and_eq_true]
  refine ⟨elemB_iff.2 ⟨by omega, by omega⟩, ?_⟩
  cases hb : c.bin
  · rfl
  · have := h.2 hb
    simp; omega
theorem sy_good {c : Cd} {L : List Nat} (h : c.AllSy L) : good c.G.m c.bin (zs L) = (zs L).length := by
  refine good_all (fun i hi => ?_)
  rw [mapN_getD]
  have hi' : i < L.length := by simpa [zs] using hi
  rw [List.getD_eq_getElem?_getD, List.getElem?_eq_getElem hi']
  exact sy_symB (h _ (List.getElem_mem _))

theorem word_sy {c : Cd} (ok : c.Ok) {u : List Nat} (hm : Gf.msg c u) (hu : c.AllSy u) : c.AllSy (c.word u) := by
  intro a ha
  refine ⟨Gf.word_el ok hm a ha, fun hb => ?_⟩
  refine Gf.fl_bits hb (Gf.pad_len ok hm) ?_ a (List.mem_of_mem_drop (List.mem_of_mem_take ha))
  intro z hz
  rcases List.mem_append.1 hz with h | h
  · rw [(List.mem_replicate.1 h).2]; omega
  · exact (hu z h).2 hb

theorem xor_le_one {a b : Nat} (ha : a ≤ 1) (hb : b ≤ 1) : a ^^^ b ≤ 1 := by
  have h1 : a = 0 ∨ a = 1 := by omega
  have h2 : b = 0 ∨ b = 1 := by omega
  rcases h1 with rfl | rfl <;> rcases h2 with rfl | rfl <;> decide
theorem zx_sy {c : Cd} : ∀ {u v : List Nat}, c.AllSy u → c.AllSy v → c.AllSy (Gf.zx u v)
  | [], _, _, _ => by intro a ha; simp [Gf.zx] at ha
  | _ :: _, [], _, _ => by intro a ha; simp [Gf.zx] at ha
  | x :: u, y :: v, hu, hv => by
    intro a ha
    have hx := hu x (List.mem_cons_self ..)
    have hy := hv y (List.mem_cons_self ..)
    have ha' : a = x ^^^ y ∨ a ∈ Gf.zx u v := by simpa [Gf.zx] using ha
    rcases ha' with rfl | h
    · exact ⟨c.G.El_xor hx.1 hy.1, fun hb => xor_le_one (hx.2 hb) (hy.2 hb)⟩
    · exact zx_sy (fun z hz => hu z (List.mem_cons_of_mem _ hz)) (fun z hz => hv z (List.mem_cons_of_mem _ hz)) a h

/-- what Encode answers to a message that is one. -/
theorem enc_fit {c : Cd} {l : List Int} (h : givenE c.G.m c.bin l (c.K - c.short) = 0) : encE c l = 0 ∧ encAt c l = 0 ∧ encL c l = zs (c.word (nat l)) :=
  ⟨h, at_zero h, by unfold encL; rw [if_pos h]⟩
theorem fit_zs {c : Cd} {L : List Nat} (hm : Gf.msg c L) (hs : c.AllSy L) : givenE c.G.m c.bin (zs L) (c.K - c.short) = 0 :=
  given_ok.2 ⟨by rw [show (zs L).length = L.length from List.length_map ..]; exact hm.1, sy_good hs⟩

/-- Check takes words. -/
theorem chk_word {c : Cd} (ok : c.Ok) {u : List Nat} (hm : Gf.msg c u) (hu : c.AllSy u) : chkE c (zs (c.word u)) = 0 ∧ chkB c (zs (c.word u)) = true := by
  have h1 : chkE c (zs (c.word u)) = 0 := given_ok.2 ⟨by rw [show (zs (c.word u)).length = (c.word u).length from List.length_map ..]; exact Gf.word_length ok hm, sy_good (word_sy ok hm hu)⟩
  refine ⟨h1, ?_⟩
  unfold chkB
  rw [h1]
  unfold isWord
  rw [zs_take, Gf.word_take ok hm, nat_zs]
  simp

theorem el_256 {c : Cd} (m8 : c.G.m ≤ 8) {L : List Nat} (h : ∀ a, a ∈ L → c.G.El a) : ∀ a, a ∈ L → a < 256 := fun a ha => by
  have h1 : a < 2 ^ c.G.m := h a ha
  have h2 : 2 ^ c.G.m ≤ 2 ^ 8 := Nat.pow_le_pow_right (by omega) m8
  omega

/-- a list that lies off the blocks D, or has no number. -/
def OffL (D : Nat → Prop) (v : Value) (l : List Int) : Prop := l = [] ∨ Off D v
theorem Rd.outL {D : Nat → Prop} {w w' : World} {v : Value} {l : List Int} (h : Rd w v l) (ho : OffL D v l) (hb : Out D w w') : Rd w' v l := by
  rcases ho with rfl | ho
  · exact h.nil_any
  · exact h.out ho hb
theorem Rd.offL {D : Nat → Prop} {w : World} {v : Value} {l : List Int} (h : Rd w v l) (hD : ∀ k, D k → w.heap.size ≤ k) : OffL D v l := by
  obtain ⟨a, cap, rfl, hm, hc⟩ := h
  by_cases h0 : l = []
  · exact Or.inl h0
  · refine Or.inr (fun b o i n cap' e hd => ?_)
    have hl : 0 < l.length := List.length_pos_iff.2 h0
    obtain ⟨b', o', ha, hcell⟩ := hc 0 hl
    rw [ha] at e
    cases e
    have h1 := hD _ hd
    have h2 : b < w.heap.size := lt_of_cell hcell
    omega

variable {B : Nat}

/-- where a walk of a statement stands: the codec is there, the lists read as they did, the parameters lie in block s0. -/
structure St (P : Pg B) (c : Cd) (F : Nat → Prop) (v : Value) (s0 : Nat) (ls : List (Value × List Int)) (w wx : World) : Prop where
  gl : P.Gl wx
  bB : B ≤ wx.heap.size
  b : Below B w wx
  cd : P.Cod c F v wx
  bx : Box wx s0 c.G.m c.G.q c.first c.delta c.short c.cut c.bin
  s0F : ¬ F s0
  rd : ∀ p, p ∈ ls → Rd wx p.1 p.2
  off : ∀ p, p ∈ ls → OffL F p.1 p.2

variable {P : Pg B} {c : Cd} {F : Nat → Prop} {v : Value} {s0 : Nat} {ls : List (Value × List Int)} {w wx wy : World}

theorem St.below (h : St P c F v s0 ls w wx) (hb : Below wx.heap.size wx wy) : St P c F v s0 ls w wy :=
  ⟨P.gl h.gl (hb.mono h.bB), Nat.le_trans h.bB hb.size, h.b.trans (hb.mono h.bB), P.keepB h.cd hb, h.bx.below hb, h.s0F, fun p hp => (h.rd p hp).below hb, h.off⟩
theorem St.out (h : St P c F v s0 ls w wx) (ho : Out F wx wy) (hc : P.Cod c F v wy) : St P c F v s0 ls w wy := by
  have hb : Below B wx wy := ho.below (fun k hk => (P.lt h.cd hk).1) h.bB
  exact ⟨P.gl h.gl hb, Nat.le_trans h.bB ho.size, h.b.trans hb, hc, (ho.block _ h.bx.lt h.s0F).trans h.bx, h.s0F, fun p hp => (h.rd p hp).outL (h.off p hp) ho, h.off⟩
theorem St.add (h : St P c F v s0 ls w wx) {x : Value} {l : List Int} (hx : Rd wx x l) (ho : OffL F x l) : St P c F v s0 ((x, l) :: ls) w wx :=
  ⟨h.gl, h.bB, h.b, h.cd, h.bx, h.s0F, fun p hp => by rcases List.mem_cons.1 hp with rfl | hp; exact hx; exact h.rd p hp, fun p hp => by rcases List.mem_cons.1 hp with rfl | hp; exact ho; exact h.off p hp⟩
theorem St.drew (h : St P c F v s0 ls w wx) : St P c F v s0 ls w wx.drew := h.below (Below.refl _ _).drew

/-- Encode of a message that is one: a word on a block of its own. -/
theorem encP_fit {l : List Int} {e : Ending} (h : EncP c l w wx e) (hf : givenE c.G.m c.bin l (c.K - c.short) = 0) :
    ∃ x b, e = .returned (.tuple #[x, .int .i64 0, .int .i64 0]) ∧ w.heap.size ≤ b ∧ Wr wx x (zs (c.word (nat l))) b := by
  rcases h with ⟨h0, _⟩ | ⟨_, x, b, hb, rfl, hw⟩
  · exact absurd hf h0
  · exact ⟨x, b, rfl, hb, hw⟩
end Go.Proofs.YtnpkkcbadcmgkaaGreatDoor

namespace Go.Proofs.YtnpkkcbadcmgkaaGreatDoor
open Go.RowKit Go.Deep
open Gf (Cd)
variable {B : Nat} (P : Pg B)

theorem getD_lt {l : List Nat} (h : ∀ a, a ∈ l → a < 256) (i : Nat) : l.getD i 0 < 256 := by
  rw [List.getD_eq_getElem?_getD]
  cases e : l[i]? with
  | none => show 0 < 256; omega
  | some a => exact h a (List.mem_of_getElem? e)

end Go.Proofs.YtnpkkcbadcmgkaaGreatDoor
