import Derived.Test.YtnpkkcbadcmgkabGreatDoorWAll
import Derived.Test.YtnpkkcbadcmgkabGreatDoorOpen
import Derived.SizedLaws
import Derived.DataReads
import Derived.Deep.Slices
namespace Go.Proofs.YtnpkkcbadcmgkabGreatDoor
open Go.ChangeShapes Go.WideShapes Go.ChangeAt Go.RowKit Go.Deep Go.Joins
set_option maxRecDepth 100000

section
variable {H : Type} {enc : TypeId × Value → H} {W : World}

/-- a slice of ints, by its cell. -/
theorem list_cells {base : Nat} {sp : Nat → Bool} {held : Bool} {fuel : Nat} {cs : List Value} {x : DataW H × List MemPlace} (hf : DataW.trod enc Tryz.prog W base sp held fuel 26 cs = some x) :
    ∃ (V : Value) (l : List Int), cs = [V] ∧ Rd W V l ∧ CapOk V ∧ ((x.1 = .nil ∧ l = []) ∨ ∃ el s, x.1 = .slice el s ∧ el.length = l.length) := by
  rcases open_ints Tryz.underlying26 Tryz.underlying3 (by kernel_rfl) hf with ⟨rfl, hx⟩ | ⟨a, len, cap, zs, rfl, _, hl, hm, hz, hx, hcell, _⟩
  · exact ⟨_, [], rfl, ⟨none, 0, rfl, by simp, fun i hi => by simp at hi⟩, fun _ _ _ e => by cases e; exact Nat.le_refl _, Or.inl ⟨congrArg Prod.fst hx, rfl⟩⟩
  · have hlz : len ≤ zs.length := by rw [hz]; split <;> omega
    have hll : (zs.take len).length = len := by rw [List.length_take]; omega
    refine ⟨_, zs.take len, rfl, ⟨some a, cap, by rw [hll], by rw [hll]; omega, fun i hi => ?_⟩, fun _ _ _ e => by cases e; exact hl, Or.inr ⟨_, _, congrArg Prod.fst hx, by simp [lits]⟩⟩
    rw [hll] at hi
    obtain ⟨b, off, rfl, hc⟩ := ints_at hcell (by omega)
    refine ⟨b, off, rfl, ?_⟩
    rw [hc i (by omega), List.getD_eq_getElem?_getD, List.getD_eq_getElem?_getD, List.getElem?_take_of_lt hi]

/-- a slice's weight. -/
theorem list_weight {d : DataW H} {l : List Int} (h : ∀ n ∈ d.weights Tryz.prog 26, n ≤ reachBytes) (hl : (d = .nil ∧ l = []) ∨ ∃ el s, d = .slice el s ∧ el.length = l.length) : 8 * l.length ≤ 281474976710656 := by
  have b3 : Tryz.prog.bytesOf 3 = 8 := by kernel_rfl
  rcases hl with ⟨rfl, rfl⟩ | ⟨el, s, rfl, he⟩
  · simp
  · have h1 := h ((el.length + s.length) * Tryz.prog.bytesOf 3) (by simp [DataW.weights, Tryz.underlying26])
    rw [b3, he] at h1
    have h2 := reachBytes_lt
    omega

/-- Params, by their cells. -/
theorem params_cells {base : Nat} {sp : Nat → Bool} {held : Bool} {fuel : Nat} {c0 c1 c2 c3 c4 c5 c6 : Value} {x : DataW H × List MemPlace} (hf : DataW.trod enc Tryz.prog W base sp held fuel 25 [c0, c1, c2, c3, c4, c5, c6] = some x) :
    ∃ (m q f d s t : Int) (b : Bool), c0 = .int .i64 m ∧ c1 = .int .i64 q ∧ c2 = .int .i64 f ∧ c3 = .int .i64 d ∧ c4 = .int .i64 s ∧ c5 = .int .i64 t ∧ c6 = .bool b := by
  obtain ⟨xs, n, _, _, _, hlen, hfs⟩ := DataW.trod_struct Tryz.underlying25 hf
  have cI : Tryz.prog.cellsOf 3 = 1 := by kernel_rfl
  have cB : Tryz.prog.cellsOf 4 = 1 := by kernel_rfl
  match xs, hlen with
  | [y0, y1, y2, y3, y4, y5, y6], _ =>
    have g0 := hfs 0 _ rfl
    have g1 := hfs 1 _ rfl
    have g2 := hfs 2 _ rfl
    have g3 := hfs 3 _ rfl
    have g4 := hfs 4 _ rfl
    have g5 := hfs 5 _ rfl
    have g6 := hfs 6 _ rfl
    obtain ⟨x0, e0, -⟩ := DataW.trod_int (k := .i64) Tryz.underlying3 g0
    obtain ⟨x1, e1, -⟩ := DataW.trod_int (k := .i64) Tryz.underlying3 g1
    obtain ⟨x2, e2, -⟩ := DataW.trod_int (k := .i64) Tryz.underlying3 g2
    obtain ⟨x3, e3, -⟩ := DataW.trod_int (k := .i64) Tryz.underlying3 g3
    obtain ⟨x4, e4, -⟩ := DataW.trod_int (k := .i64) Tryz.underlying3 g4
    obtain ⟨x5, e5, -⟩ := DataW.trod_int (k := .i64) Tryz.underlying3 g5
    obtain ⟨x6, e6, -⟩ := DataW.trod_bool Tryz.underlying4 g6
    simp [cI, cB] at e0 e1 e2 e3 e4 e5 e6
    exact ⟨x0, x1, x2, x3, x4, x5, x6, e0, e1, e2, e3, e4, e5, e6⟩

/-- a step, by its cells. -/
theorem op_cells {base : Nat} {sp : Nat → Bool} {held : Bool} {fuel : Nat} {cs : List Value} {x : DataW H × List MemPlace} (hf : DataW.trod enc Tryz.prog W base sp held fuel 28 cs = some x)
    (hw : ∀ n ∈ x.1.weights Tryz.prog 28, n ≤ reachBytes) :
    ∃ y : OpD, cs = [.int .i64 y.k, .int .i64 y.a, .int .i64 y.b, .string y.s, .string y.t, .int .i64 y.pm, .int .i64 y.pq, .int .i64 y.pf, .int .i64 y.pd, .int .i64 y.ps, .int .i64 y.pt, .bool y.pb, y.V, y.U, y.X] ∧
      Rd W y.V y.lv ∧ Rd W y.U y.lu ∧ Rd W y.X y.lx ∧ CapOk y.V ∧ 8 * y.lv.length ≤ 281474976710656 ∧ 8 * y.lu.length ≤ 281474976710656 := by
  obtain ⟨xs, n, _, hx, hsz, hlen, hfs⟩ := DataW.trod_struct Tryz.underlying28 hf
  subst hx
  have hC : Tryz.prog.cellsOf 28 = 15 := by kernel_rfl
  rw [hC] at hsz
  have cI : Tryz.prog.cellsOf 3 = 1 := by kernel_rfl
  have cS : Tryz.prog.cellsOf 9 = 1 := by kernel_rfl
  have cP : Tryz.prog.cellsOf 25 = 7 := by kernel_rfl
  have cL : Tryz.prog.cellsOf 26 = 1 := by kernel_rfl
  match cs, hsz with
  | [c0, c1, c2, c3, c4, c5, c6, c7, c8, c9, c10, c11, c12, c13, c14], _ =>
    match xs, hlen with
    | [y0, y1, y2, y3, y4, y5, y6, y7, y8], _ =>
      have g0 := hfs 0 _ rfl
      have g1 := hfs 1 _ rfl
      have g2 := hfs 2 _ rfl
      have g3 := hfs 3 _ rfl
      have g4 := hfs 4 _ rfl
      have g5 := hfs 5 _ rfl
      have g6 := hfs 6 _ rfl
      have g7 := hfs 7 _ rfl
      have g8 := hfs 8 _ rfl
      obtain ⟨x0, e0, -⟩ := DataW.trod_int (k := .i64) Tryz.underlying3 g0
      obtain ⟨x1, e1, -⟩ := DataW.trod_int (k := .i64) Tryz.underlying3 g1
      obtain ⟨x2, e2, -⟩ := DataW.trod_int (k := .i64) Tryz.underlying3 g2
      obtain ⟨x3, e3, -⟩ := DataW.trod_string Tryz.underlying9 g3
      obtain ⟨x4, e4, -⟩ := DataW.trod_string Tryz.underlying9 g4
      have g5' : DataW.trod enc Tryz.prog W base sp held n 25 [c5, c6, c7, c8, c9, c10, c11] = some y5 := g5
      obtain ⟨m, q, f, d, s, t, b, rfl, rfl, rfl, rfl, rfl, rfl, rfl⟩ := params_cells g5'
      obtain ⟨V, lv, e6, r6, k6, d6⟩ := list_cells g6
      obtain ⟨U, lu, e7, r7, _, d7⟩ := list_cells g7
      obtain ⟨X, lx, e8, r8, _, _⟩ := list_cells g8
      simp [cI, cS, cL] at e0 e1 e2 e3 e4 e6 e7 e8
      subst e0 e1 e2 e3 e4 e6 e7 e8
      have hw' : ∀ k (t : TypeId) (d : DataW H), (Tryz.prog.underlying 28).isSome = true → [(3 : TypeId), 3, 3, 9, 9, 25, 26, 26, 26][k]? = some t → ([y0, y1, y2, y3, y4, y5, y6, y7, y8].map (·.1))[k]? = some d → ∀ n ∈ d.weights Tryz.prog t, n ≤ reachBytes := fun k t d _ ht hd n hn => by
        refine hw n ?_
        have := DataW.weights_mem_each ht hd n hn
        simp only [DataW.weights, Tryz.underlying28]
        exact this
      exact ⟨⟨x0, x1, x2, x3, x4, m, q, f, d, s, t, b, c12, c13, c14, lv, lu, lx⟩, rfl, r6, r7, r8, k6, list_weight (hw' 6 _ _ rfl rfl rfl) d6, list_weight (hw' 7 _ _ rfl rfl rfl) d7⟩

theorem weights_all {P : Program} {e : TypeId} : ∀ {ds : List (DataW H)} {i : Nat} {d : DataW H}, ds[i]? = some d → ∀ n ∈ d.weights P e, n ∈ DataW.weightsAll P e ds
  | d0 :: r, 0, d, hd, n, hn => by
    simp only [List.getElem?_cons_zero, Option.some.injEq] at hd
    subst hd
    simp only [DataW.weightsAll, List.mem_append]
    exact Or.inl hn
  | d0 :: r, i + 1, d, hd, n, hn => by
    simp only [List.getElem?_cons_succ] at hd
    simp only [DataW.weightsAll, List.mem_append]
    exact Or.inr (weights_all hd n hn)
  | [], _, _, hd, _, _ => by simp at hd

theorem op_at {bs o : Nat} {cs : List Value} {base : Nat} (hc : W.cells? base ⟨bs, o, none⟩ 15 = some cs) (y : OpD)
    (e : cs = [.int .i64 y.k, .int .i64 y.a, .int .i64 y.b, .string y.s, .string y.t, .int .i64 y.pm, .int .i64 y.pq, .int .i64 y.pf, .int .i64 y.pd, .int .i64 y.ps, .int .i64 y.pt, .bool y.pb, y.V, y.U, y.X])
    (h : Rd W y.V y.lv ∧ Rd W y.U y.lu ∧ Rd W y.X y.lx ∧ CapOk y.V ∧ 8 * y.lv.length ≤ 281474976710656 ∧ 8 * y.lu.length ≤ 281474976710656) : OpAt W bs o y := by
  obtain ⟨_, _, hg⟩ := World.cells?_some hc
  have g : ∀ j, j < 15 → W.cell? ⟨bs, o + j, none⟩ = cs[j]? := fun j hj => by rw [← add_plain]; exact hg j hj
  subst e
  obtain ⟨h1, h2, h3, h4, h5, h6⟩ := h
  exact ⟨g 0 (by decide), g 1 (by decide), g 2 (by decide), g 3 (by decide), g 4 (by decide), g 5 (by decide), g 6 (by decide), g 7 (by decide), g 8 (by decide), g 9 (by decide), g 10 (by decide), g 11 (by decide), g 12 (by decide), g 13 (by decide), g 14 (by decide), h1, h2, h3, h4, h5, h6⟩

/-- a script, as an argument. -/
theorem open_script {r : Reach} {base b0 : Nat} {sp : Nat → Bool} {held : Bool} {v : Value} {d : DataW H} {ps : List MemPlace} (hval : Value.okWide Tryz.prog W r b0 22 v) (h : DataW.Trod enc Tryz.prog W base sp held 22 v d ps)
    (hw : ∀ n ∈ d.weights Tryz.prog 22, n ≤ reachBytes) : ∃ L, Scr W v L := by
  obtain ⟨a0, len, cap, rfl⟩ := okWide_slice Tryz.underlying22 hval
  obtain ⟨fuel, hf⟩ := h
  have hC : Tryz.prog.cellsOf 28 = 15 := by kernel_rfl
  rcases open_slice Tryz.underlying22 hf with ⟨hcs, hx⟩ | ⟨a, len', cap', m, n, D, Pl, hcs, hb, hl, hcm, hm, hx, hel⟩
  · have hcs' : a0 = none ∧ len = 0 ∧ cap = 0 := by simpa [Value.cells] using hcs
    obtain ⟨rfl, rfl, rfl⟩ := hcs'
    exact ⟨[], none, 0, rfl, by simp, fun i hi => by simp at hi⟩
  · have hcs' : a0 = some a ∧ len = len' ∧ cap = cap' := by simpa [Value.cells] using hcs
    obtain ⟨rfl, rfl, rfl⟩ := hcs'
    have hd : d = _ := congrArg Prod.fst hx
    have hlm : len ≤ m := by rw [hm]; split <;> omega
    have hwe : ∀ i, i < len → ∀ n ∈ (D i).weights Tryz.prog 28, n ≤ reachBytes := fun i hi n hn => by
      refine hw n ?_
      rw [hd]
      simp only [DataW.weights, Tryz.underlying22]
      exact List.mem_cons_of_mem _ (List.mem_append_left _ (weights_all (i := i) (d := D i) (by simp [hi]) n hn))
    have hby : len ≤ 1000000000000000 := by
      have b : Tryz.prog.bytesOf 28 = 184 := by kernel_rfl
      have h1 := hw ((len + (m - len)) * Tryz.prog.bytesOf 28) (by rw [hd]; simp [DataW.weights, Tryz.underlying22])
      rw [b] at h1
      have h2 := reachBytes_lt
      omega
    by_cases h0 : len = 0
    · subst h0
      exact ⟨[], some a, cap, rfl, by simp, fun i hi => by simp at hi⟩
    obtain ⟨bs, o, spot⟩ := a
    have hspot : spot = none := by
      obtain ⟨cs, hc, ht⟩ := hel 0 (by omega)
      rw [hC] at hc
      obtain ⟨_, hl15, hg⟩ := World.cells?_some hc
      have h0 := hg 0 (by decide)
      rw [List.getElem?_eq_getElem (by omega)] at h0
      simpa [Addr.add] using World.cell?_spot h0
    subst hspot
    have hall : ∀ i, ∃ y : OpD, i < len → OpAt W bs (o + i * 15) y := fun i => by
      by_cases hi : i < len
      · obtain ⟨cs, hc, ht⟩ := hel i (by omega)
        rw [hC, add_plain] at hc
        obtain ⟨y, e, hr⟩ := op_cells ht (hwe i hi)
        exact ⟨y, fun _ => op_at hc y e hr⟩
      · exact ⟨⟨0, 0, 0, ByteArray.empty, ByteArray.empty, 0, 0, 0, 0, 0, 0, false, .slice none 0 0, .slice none 0 0, .slice none 0 0, [], [], []⟩, fun h => absurd h hi⟩
    obtain ⟨f, hf'⟩ := Classical.axiomOfChoice hall
    refine ⟨(List.range len).map f, some ⟨bs, o, none⟩, cap, by simp, by simpa using hby, fun i hi => ⟨bs, o, rfl, ?_⟩⟩
    have hi' : i < len := by simpa using hi
    have := hf' i hi'
    simpa using this
end
end Go.Proofs.YtnpkkcbadcmgkabGreatDoor
