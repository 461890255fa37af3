import Derived.Test.YtohgmoclnicchaaDoorWSum
namespace Go.Proofs.YtohgmoclnicchaaDoor
open Go.RowKit Go.Deep
open Gf (Cd)

/-- the numbers as ints. -/
abbrev zs (l : List Nat) : List Int := l.map fun x : Nat => (x : Int)

theorem nat_zs (L : List Nat) : nat (zs L) = L := by
  unfold nat zs
  rw [List.map_map]
  refine (List.map_congr_left (g := id) fun x _ => ?_).trans (List.map_id _)
  show ((x : Int)).toNat = x
  omega
theorem zs_take (L : List Nat) (k : Nat) : (zs L).take k = zs (L.take k) := by unfold zs; rw [List.map_take]

theorem sy_symB {c : Cd} {a : Nat} (h : c.Sy a) : symB c.G.m c.bin (a : Int) = true := by
  have h1 : a < 2 ^ c.G.m := h.1
  have h3 : ((2 ^ c.G.m : Nat) : Int) = (2 : Int) ^ c.G.m := by simp
  unfold symB
  rw [Bool.and_eq_true]
  refine ⟨elemB_iff.2 ⟨by omega, by omega⟩, ?_⟩
  cases hb : c.bin
  · rfl
  · have := h.2 hb
    simp; omega
theorem sy_good {c : Cd} {L : List Nat} (h : c.AllSy L) : good c.G.m c.bin (zs L) = (zs L).length := by
  refine good_all (fun i hi => ?_)
  rw [mapN_getD]
  have hi' : i < L.length := by simpa [zs] using hi
  rw [List.getD_eq_getElem?_getD, List.getElem?_eq_getElem hi']
  exact sy_symB (h _ (List.getElem_mem _))

theorem word_sy {c : Cd} (ok : c.Ok) {u : List Nat} (hm : Gf.msg c u) (hu : c.AllSy u) : c.AllSy (c.word u) := by
  intro a ha
  refine ⟨Gf.word_el ok hm a ha, fun hb => ?_⟩
  refine Gf.fl_bits hb (Gf.pad_len ok hm) ?_ a (List.mem_of_mem_drop (List.mem_of_mem_take ha))
  intro z hz
  rcases List.mem_append.1 hz with h | h
  · rw [(List.mem_replicate.1 h).2]; omega
  · exact (hu z h).2 hb

theorem xor_le_one {a b : Nat} (ha : a ≤ 1) (hb : b ≤ 1) : a ^^^ b ≤ 1 := by
  have h1 : a = 0 ∨ a = 1 := by omega
  have h2 : b = 0 ∨ b = 1 := by omega
  rcases h1 with rfl | rfl <;> rcases h2 with rfl | rfl <;> decide
theorem zx_sy {c : Cd} : ∀ {u v : List Nat}, c.AllSy u → c.AllSy v → c.AllSy (Gf.zx u v)
  | [], _, _, _ => by intro a ha; simp [Gf.zx] at ha
  | _ :: _, [], _, _ => by intro a ha; simp [Gf.zx] at ha
  | x :: u, y :: v, hu, hv => by
    intro a ha
    have hx := hu x (List.mem_cons_self ..)
    have hy := hv y (List.mem_cons_self ..)
    have ha' : a = x ^^^ y ∨ a ∈ Gf.zx u v := by simpa [Gf.zx] using ha
    rcases ha' with rfl | h
    · exact ⟨c.G.El_xor hx.1 hy.1, fun hb => xor_le_one (hx.2 hb) (hy.2 hb)⟩
    · exact zx_sy (fun z hz => hu z (List.mem_cons_of_mem _ hz)) (fun z hz => hv z (List.mem_cons_of_mem _ hz)) a h

/-- what Encode answers to a message that is one. -/
theorem enc_fit {c : Cd} {l : List Int} (h : givenE c.G.m c.bin l (c.K - c.short) = 0) : encE c l = 0 ∧ encAt c l = 0 ∧ encL c l = zs (c.word (nat l)) :=
  ⟨h, at_zero h, by unfold encL; rw [if_pos h]⟩
theorem fit_zs {c : Cd} {L : List Nat} (hm : Gf.msg c L) (hs : c.AllSy L) : givenE c.G.m c.bin (zs L) (c.K - c.short) = 0 :=
  given_ok.2 ⟨by rw [show (zs L).length = L.length from List.length_map ..]; exact hm.1, sy_good hs⟩

/-- Check takes words. -/
theorem chk_word {c : Cd} (ok : c.Ok) {u : List Nat} (hm : Gf.msg c u) (hu : c.AllSy u) : chkE c (zs (c.word u)) = 0 ∧ chkB c (zs (c.word u)) = true := by
  have h1 : chkE c (zs (c.word u)) = 0 := given_ok.2 ⟨by rw [show (zs (c.word u)).length = (c.word u).length from List.length_map ..]; exact Gf.word_length ok hm, sy_good (word_sy ok hm hu)⟩
  refine ⟨h1, ?_⟩
  unfold chkB
  rw [h1]
  unfold isWord
  rw [zs_take, Gf.word_take ok hm, nat_zs]
  simp

theorem el_256 {c : Cd} (m8 : c.G.m ≤ 8) {L : List Nat} (h : ∀ a, a ∈ L → c.G.El a) : ∀ a, a ∈ L → a < 256 := fun a ha => by
  have h1 : a < 2 ^ c.G.m := h a ha
  have h2 : 2 ^ c.G.m ≤ 2 ^ 8 := Nat.pow_le_pow_right (by omega) m8
  omega

/-- a list that lies off the blocks D, or has no number. -/
def OffL (D : Nat → Prop) (v : Value) (l : List Int) : Prop := l = [] ∨ Off D v
theorem Rd.outL {D : Nat → Prop} {w w' : World} {v : Value} {l : List Int} (h : Rd w v l) (ho : OffL D v l) (hb : Out D w w') : Rd w' v l := by
  rcases ho with rfl | ho
  · exact h.nil_any
  · exact h.out ho hb
theorem Rd.offL {D : Nat → Prop} {w : World} {v : Value} {l : List Int} (h : Rd w v l) (hD : ∀ k, D k → w.heap.size ≤ k) : OffL D v l := by
  obtain ⟨a, cap, rfl, hm, hc⟩ := h
  by_cases h0 : l = []
  · exact Or.inl h0
  · refine Or.inr (fun b o i n cap' e hd => ?_)
    have hl : 0 < l.length := List.length_pos_iff.2 h0
    obtain ⟨b', o', ha, hcell⟩ := hc 0 hl
    rw [ha] at e
    cases e
    have h1 := hD _ hd
    have h2 : b < w.heap.size := lt_of_cell hcell
    omega

variable {B : Nat}

/-- where a walk of a statement stands: the codec is there, the lists read as they did, the parameters lie in block s0. -/
structure St (P : Pg B) (c : Cd) (F : Nat → Prop) (v : Value) (s0 : Nat) (ls : List (Value × List Int)) (w wx : World) : Prop where
  gl : P.Gl wx
  bB : B ≤ wx.heap.size
  b : Below B w wx
  cd : P.Cod c F v wx
  bx : Box wx s0 c.G.m c.G.q c.first c.delta c.short c.cut c.bin
  s0F : ¬ F s0
  rd : ∀ p, p ∈ ls → Rd wx p.1 p.2
  off : ∀ p, p ∈ ls → OffL F p.1 p.2

variable {P : Pg B} {c : Cd} {F : Nat → Prop} {v : Value} {s0 : Nat} {ls : List (Value × List Int)} {w wx wy : World}

theorem St.below (h : St P c F v s0 ls w wx) (hb : Below wx.heap.size wx wy) : St P c F v s0 ls w wy :=
  ⟨P.gl h.gl (hb.mono h.bB), Nat.le_trans h.bB hb.size, h.b.trans (hb.mono h.bB), P.keepB h.cd hb, h.bx.below hb, h.s0F, fun p hp => (h.rd p hp).below hb, h.off⟩
theorem St.out (h : St P c F v s0 ls w wx) (ho : Out F wx wy) (hc : P.Cod c F v wy) : St P c F v s0 ls w wy := by
  have hb : Below B wx wy := ho.below (fun k hk => (P.lt h.cd hk).1) h.bB
  exact ⟨P.gl h.gl hb, Nat.le_trans h.bB ho.size, h.b.trans hb, hc, (ho.block _ h.bx.lt h.s0F).trans h.bx, h.s0F, fun p hp => (h.rd p hp).outL (h.off p hp) ho, h.off⟩
theorem St.add (h : St P c F v s0 ls w wx) {x : Value} {l : List Int} (hx : Rd wx x l) (ho : OffL F x l) : St P c F v s0 ((x, l) :: ls) w wx :=
  ⟨h.gl, h.bB, h.b, h.cd, h.bx, h.s0F, fun p hp => by rcases List.mem_cons.1 hp with rfl | hp; exact hx; exact h.rd p hp, fun p hp => by rcases List.mem_cons.1 hp with rfl | hp; exact ho; exact h.off p hp⟩
theorem St.drew (h : St P c F v s0 ls w wx) : St P c F v s0 ls w wx.drew := h.below (Below.refl _ _).drew

/-- Encode of a message that is one: a word on a block of its own. -/
theorem encP_fit {l : List Int} {e : Ending} (h : EncP c l w wx e) (hf : givenE c.G.m c.bin l (c.K - c.short) = 0) :
    ∃ x b, e = .returned (.tuple #[x, .int .i64 0, .int .i64 0]) ∧ w.heap.size ≤ b ∧ Wr wx x (zs (c.word (nat l))) b := by
  rcases h with ⟨h0, _⟩ | ⟨_, x, b, hb, rfl, hw⟩
  · exact absurd hf h0
  · exact ⟨x, b, rfl, hb, hw⟩
end Go.Proofs.YtohgmoclnicchaaDoor
