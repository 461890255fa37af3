import Derived.Test.YtnpkkcbadcmgkaaGreatDoorCode
namespace Go.Proofs.YtnpkkcbadcmgkaaGreatDoor.Gf

/-! ### Sums of many, and values by Horner's rule -/
def sx (f : Nat → Nat) : Nat → Nat
  | 0 => 0
  | k + 1 => sx f k ^^^ f k
theorem sx_congr {f g : Nat → Nat} : ∀ {k : Nat}, (∀ i, i < k → f i = g i) → sx f k = sx g k
  | 0, _ => rfl
  | k + 1, h => by
    show sx f k ^^^ f k = sx g k ^^^ g k
    rw [sx_congr (k := k) (fun i hi => h i (by omega)), h k (by omega)]
theorem sx_zero {f : Nat → Nat} : ∀ {k : Nat}, (∀ i, i < k → f i = 0) → sx f k = 0
  | 0, _ => rfl
  | k + 1, h => by
    show sx f k ^^^ f k = 0
    rw [sx_zero (k := k) (fun i hi => h i (by omega)), h k (by omega)]; rfl
theorem sx_xor (f g : Nat → Nat) : ∀ k, sx (fun i => f i ^^^ g i) k = sx f k ^^^ sx g k
  | 0 => (Nat.xor_self 0).symm
  | k + 1 => by
    show sx _ k ^^^ (f k ^^^ g k) = (sx f k ^^^ f k) ^^^ (sx g k ^^^ g k)
    rw [sx_xor f g k, xor4]
theorem sx_El {G : Fd} {f : Nat → Nat} : ∀ {k : Nat}, (∀ i, i < k → G.El (f i)) → G.El (sx f k)
  | 0, _ => G.El_zero
  | k + 1, h => G.El_xor (sx_El (k := k) fun i hi => h i (by omega)) (h k (by omega))
theorem sx_mul {G : Fd} {f : Nat → Nat} (x : Nat) : ∀ {k : Nat}, (∀ i, i < k → G.El (f i)) → G.mul (sx f k) x = sx (fun i => G.mul (f i) x) k
  | 0, _ => G.zero_mul x
  | k + 1, h => by
    show G.mul (sx f k ^^^ f k) x = _ ^^^ G.mul (f k) x
    rw [G.xor_mul (sx_El fun i hi => h i (by omega)) (h k (by omega)), sx_mul x (k := k) fun i hi => h i (by omega)]
theorem sx_mul' {G : Fd} {f : Nat → Nat} {x : Nat} (hx : G.El x) : ∀ {k : Nat}, G.mul x (sx f k) = sx (fun i => G.mul x (f i)) k
  | 0 => G.mul_zero x
  | k + 1 => by
    show G.mul x (sx f k ^^^ f k) = _ ^^^ G.mul x (f k)
    rw [G.mul_xor hx, sx_mul' hx (k := k)]
theorem sx_swap (f : Nat → Nat → Nat) (n : Nat) : ∀ k, sx (fun i => sx (f i) n) k = sx (fun p => sx (fun i => f i p) k) n
  | 0 => (sx_zero fun _ _ => rfl).symm
  | k + 1 => by
    show sx (fun i => sx (f i) n) k ^^^ sx (f k) n = sx (fun p => sx (fun i => f i p) k ^^^ f k p) n
    rw [sx_swap f n k, ← sx_xor]
/-- only one is not 0. -/
theorem sx_one {f : Nat → Nat} {q : Nat} : ∀ {k : Nat}, q < k → (∀ i, i < k → i ≠ q → f i = 0) → sx f k = f q
  | 0, h, _ => by omega
  | k + 1, h, h0 => by
    show sx f k ^^^ f k = f q
    rcases Nat.lt_or_ge q k with h1 | h1
    · rw [sx_one h1 (fun i hi => h0 i (by omega)), h0 k (by omega) (by omega), Nat.xor_zero]
    · have : q = k := by omega
      subst this
      rw [sx_zero (fun i hi => h0 i (by omega) (by omega)), Nat.zero_xor]
theorem sx_shift (f : Nat → Nat) : ∀ k, sx f (k + 1) = f 0 ^^^ sx (fun i => f (i + 1)) k
  | 0 => by show 0 ^^^ f 0 = f 0 ^^^ 0; rw [Nat.xor_comm]
  | k + 1 => by
    show sx f (k + 1) ^^^ f (k + 1) = f 0 ^^^ (sx (fun i => f (i + 1)) k ^^^ f (k + 1))
    rw [sx_shift f k, Nat.xor_assoc]

/-- the value at x of the polynomial with n coefficients, the highest power first. -/
def hv (G : Fd) (f : Nat → Nat) (x : Nat) : Nat → Nat
  | 0 => 0
  | k + 1 => G.mul (hv G f x k) x ^^^ f k
/-- the slope there. -/
def slo (G : Fd) (f : Nat → Nat) (x n : Nat) : Nat := hv G (fun i => hv G f x i) x n

section
variable {G : Fd}
theorem hv_congr {f g : Nat → Nat} (x : Nat) : ∀ {k : Nat}, (∀ i, i < k → f i = g i) → hv G f x k = hv G g x k
  | 0, _ => rfl
  | k + 1, h => by
    show G.mul (hv G f x k) x ^^^ f k = G.mul (hv G g x k) x ^^^ g k
    rw [hv_congr x (k := k) (fun i hi => h i (by omega)), h k (by omega)]
theorem hv_El {f : Nat → Nat} (x : Nat) : ∀ {k : Nat}, (∀ i, i < k → G.El (f i)) → G.El (hv G f x k)
  | 0, _ => G.El_zero
  | k + 1, h => G.El_xor (G.El_mul (hv_El x (k := k) fun i hi => h i (by omega)) x) (h k (by omega))
theorem hv_xor {f g : Nat → Nat} (x : Nat) : ∀ {k : Nat}, (∀ i, i < k → G.El (f i)) → (∀ i, i < k → G.El (g i)) → hv G (fun i => f i ^^^ g i) x k = hv G f x k ^^^ hv G g x k
  | 0, _, _ => (Nat.xor_self 0).symm
  | k + 1, h1, h2 => by
    show G.mul (hv G _ x k) x ^^^ (f k ^^^ g k) = (G.mul (hv G f x k) x ^^^ f k) ^^^ (G.mul (hv G g x k) x ^^^ g k)
    rw [hv_xor x (k := k) (fun i hi => h1 i (by omega)) (fun i hi => h2 i (by omega)), G.xor_mul (hv_El x fun i hi => h1 i (by omega)) (hv_El x fun i hi => h2 i (by omega)), xor4]
/-- as a sum. -/
theorem hv_sx {f : Nat → Nat} (j : Nat) : ∀ {k : Nat}, (∀ i, i < k → G.El (f i)) → hv G f (G.pw j) k = sx (fun i => G.mul (f i) (G.pw (j * (k - 1 - i)))) k
  | 0, _ => rfl
  | k + 1, h => by
    have h' : ∀ i, i < k → G.El (f i) := fun i hi => h i (by omega)
    show G.mul (hv G f (G.pw j) k) (G.pw j) ^^^ f k = sx _ k ^^^ G.mul (f k) (G.pw (j * (k + 1 - 1 - k)))
    have e1 : k + 1 - 1 - k = 0 := by omega
    rw [hv_sx j h', sx_mul _ (fun i hi => G.El_mul (h' i hi) _), e1, Nat.mul_zero, G.pw_zero, G.mul_one (h k (by omega))]
    congr 1
    refine sx_congr fun i hi => ?_
    rw [G.mul_assoc (h' i hi) (G.El_pw _) (G.El_pw _), G.pw_mul]
    have e2 : j * (k - 1 - i) + j = j * (k + 1 - 1 - i) := by
      have : k + 1 - 1 - i = (k - 1 - i) + 1 := by omega
      rw [this, Nat.mul_succ]
    rw [e2]
theorem hv_zeros {f : Nat → Nat} (x : Nat) : ∀ {k : Nat}, (∀ i, i < k → f i = 0) → hv G f x k = 0
  | 0, _ => rfl
  | k + 1, h => by
    show G.mul (hv G f x k) x ^^^ f k = 0
    rw [hv_zeros x (k := k) (fun i hi => h i (by omega)), h k (by omega), G.zero_mul]; rfl
/-- zeros behind: powers of x more. -/
theorem hv_pad {f : Nat → Nat} (j L : Nat) : ∀ (d : Nat), (∀ i, i < L + d → G.El (f i)) → (∀ i, L ≤ i → i < L + d → f i = 0) → hv G f (G.pw j) (L + d) = G.mul (hv G f (G.pw j) L) (G.pw (j * d))
  | 0, he, _ => by rw [Nat.mul_zero, G.pw_zero]; exact (G.mul_one (hv_El _ he)).symm
  | d + 1, he, h => by
    have he' : ∀ i, i < L → G.El (f i) := fun i hi => he i (by omega)
    show G.mul (hv G f (G.pw j) (L + d)) (G.pw j) ^^^ f (L + d) = _
    rw [hv_pad j L d (fun i hi => he i (by omega)) (fun i h1 h2 => h i h1 (by omega)), h (L + d) (by omega) (by omega), Nat.xor_zero, G.mul_assoc (hv_El _ he') (G.El_pw _) (G.El_pw _), G.pw_mul, ← Nat.mul_succ]
theorem hv_shift {f : Nat → Nat} (x : Nat) (h0 : f 0 = 0) : ∀ k, hv G f x (k + 1) = hv G (fun i => f (i + 1)) x k
  | 0 => by
    show G.mul 0 x ^^^ f 0 = 0
    rw [G.zero_mul, h0]; rfl
  | k + 1 => by
    show G.mul (hv G f x (k + 1)) x ^^^ f (k + 1) = G.mul (hv G _ x k) x ^^^ f (k + 1)
    rw [hv_shift x h0 k]

/-- divided differences. -/
theorem hv_div {f : Nat → Nat} {x r : Nat} (hx : G.El x) (hr : G.El r) : ∀ {k : Nat}, (∀ i, i < k → G.El (f i)) → G.mul (x ^^^ r) (hv G (fun i => hv G f r i) x k) = hv G f x k ^^^ hv G f r k
  | 0, _ => by show G.mul _ 0 = 0 ^^^ 0; rw [G.mul_zero]; rfl
  | k + 1, h => by
    have h' : ∀ i, i < k → G.El (f i) := fun i hi => h i (by omega)
    have hD : G.El (hv G (fun i => hv G f r i) x k) := hv_El x fun i hi => hv_El r fun j hj => h j (by omega)
    have hX : G.El (x ^^^ r) := G.El_xor hx hr
    have ih := hv_div hx hr h'
    have e1 := hv_El (G := G) x h'
    have e2 := hv_El (G := G) r h'
    show G.mul (x ^^^ r) (G.mul (hv G (fun i => hv G f r i) x k) x ^^^ hv G f r k) = (G.mul (hv G f x k) x ^^^ f k) ^^^ (G.mul (hv G f r k) r ^^^ f k)
    rw [G.mul_xor hX, ← G.mul_assoc hX hD hx, ih, G.xor_mul e1 e2, G.xor_mul hx hr, G.mul_comm hx e2, G.mul_comm hr e2]
    rw [xor4 (G.mul (hv G f x k) x) (f k), Nat.xor_self, Nat.xor_zero, Nat.xor_assoc, xor_cancel_left]

/-! ### lists -/
def lst (f : Nat → Nat) (n : Nat) : List Nat := (List.range n).map f
theorem lst_length (f : Nat → Nat) (n : Nat) : (lst f n).length = n := by simp [lst]
theorem lst_succ (f : Nat → Nat) (n : Nat) : lst f (n + 1) = lst f n ++ [f n] := by simp [lst, List.range_succ]
theorem lst_El {f : Nat → Nat} {n : Nat} (h : ∀ i, i < n → G.El (f i)) : AllEl G (lst f n) := fun a ha => by
  obtain ⟨i, hi, rfl⟩ := List.mem_map.1 ha
  exact h i (List.mem_range.1 hi)
theorem lst_getD (f : Nat → Nat) {n i : Nat} (hi : i < n) : (lst f n).getD i 0 = f i := by
  simp [lst, List.getD_eq_getElem?_getD, List.getElem?_map, List.getElem?_range hi]
theorem hv_ev {f : Nat → Nat} (j : Nat) : ∀ {k : Nat}, (∀ i, i < k → G.El (f i)) → hv G f (G.pw j) k = ev G j (lst f k)
  | 0, _ => rfl
  | k + 1, h => by
    have h' : ∀ i, i < k → G.El (f i) := fun i hi => h i (by omega)
    rw [lst_succ, ev_append j _ (lst_El h')]
    show G.mul (hv G f (G.pw j) k) (G.pw j) ^^^ f k = G.mul (ev G j (lst f k)) (G.pw (j * 1)) ^^^ (G.mul (f k) (G.pw (j * 0)) ^^^ 0)
    rw [hv_ev j h', Nat.mul_one, Nat.mul_zero, G.pw_zero, G.mul_one (h k (by omega)), Nat.xor_zero]

/-- how many below n. -/
def cnt (P : Nat → Bool) (n : Nat) : Nat := ((List.range n).filter P).length
theorem cnt_succ (P : Nat → Bool) (n : Nat) : cnt P (n + 1) = cnt P n + (if P n then 1 else 0) := by
  unfold cnt
  rw [List.range_succ, List.filter_append]
  cases h : P n <;> simp [h]
theorem cnt_mono {P Q : Nat → Bool} : ∀ {n : Nat}, (∀ i, i < n → P i = true → Q i = true) → cnt P n ≤ cnt Q n
  | 0, _ => Nat.le_refl _
  | n + 1, h => by
    have ih := cnt_mono (n := n) (fun i hi => h i (by omega))
    rw [cnt_succ, cnt_succ]
    have := h n (by omega)
    cases h1 : P n <;> cases h2 : Q n <;> simp_all <;> omega
theorem cnt_congr {P Q : Nat → Bool} {n : Nat} (h : ∀ i, i < n → P i = Q i) : cnt P n = cnt Q n :=
  Nat.le_antisymm (cnt_mono fun i hi e => by rw [← h i hi]; exact e) (cnt_mono fun i hi e => by rw [h i hi]; exact e)
theorem cnt_or (P Q : Nat → Bool) : ∀ n, cnt (fun i => P i || Q i) n = cnt P n + cnt (fun i => Q i && !P i) n
  | 0 => rfl
  | n + 1 => by
    rw [cnt_succ, cnt_succ, cnt_succ, cnt_or P Q n]
    cases P n <;> cases Q n <;> simp <;> omega
/-- where as many are as may be, there are no more. -/
theorem cnt_eq {P Q : Nat → Bool} : ∀ {n : Nat}, (∀ i, i < n → P i = true → Q i = true) → cnt Q n ≤ cnt P n → ∀ i, i < n → Q i = true → P i = true
  | 0, _, _, i, hi, _ => by omega
  | n + 1, h, hle, i, hi, hq => by
    have hm := cnt_mono (P := P) (Q := Q) (n := n) (fun i hi => h i (by omega))
    rw [cnt_succ, cnt_succ] at hle
    have hn := h n (by omega)
    rcases Nat.lt_or_ge i n with h1 | h1
    · refine cnt_eq (n := n) (fun i hi => h i (by omega)) ?_ i h1 hq
      cases h2 : P n <;> cases h3 : Q n <;> simp_all <;> omega
    · have : i = n := by omega
      subst this
      cases h2 : P i
      · rw [h2, hq] at hle; simp at hle; omega
      · rfl
theorem prs_cnt (f : Nat → Nat) : ∀ n, (prs (lst f n)).length = cnt (fun i => f i != 0) n
  | 0 => rfl
  | n + 1 => by
    rw [lst_succ, prs_append, prs_cnt f n, cnt_succ]
    congr 1
    unfold prs
    by_cases e : f n = 0
    · rw [if_pos e]; simp [e, prs]
    · rw [if_neg e]; simp [e, prs]
/-- THE DISTANCE, of a function on the places. -/
theorem dist_fn {Z : Nat → Nat} {n d J : Nat} (hn : n ≤ G.n) (he : ∀ i, i < n → G.El (Z i)) (hz : ∀ j, J ≤ j → j < J + d → hv G Z (G.pw j) n = 0) (hc : cnt (fun i => Z i != 0) n ≤ d) : ∀ i, i < n → Z i = 0 := by
  intro i hi
  have h := distance_list (G := G) (d := d) (J := J) (l := lst Z n) (lst_El he) (by rw [lst_length]; exact hn) (fun j h1 h2 => by rw [← hv_ev j he]; exact hz j h1 h2) (by rw [prs_cnt]; exact hc)
  exact h (Z i) (List.mem_map.2 ⟨i, List.mem_range.2 hi, rfl⟩)
/-- as many roots as coefficients. -/
theorem roots_fn {f : Nat → Nat} {L n : Nat} {R : Nat → Bool} (hn : n ≤ G.n) (he : ∀ i, i < L → G.El (f i)) (hc : L ≤ cnt R n) (hz : ∀ p, p < n → R p = true → hv G f (G.pw (n - 1 - p)) L = 0) : ∀ i, i < L → f i = 0 := by
  intro i hi
  have hx : ((((List.range n).filter R).take L).map fun p => n - 1 - p).Nodup := by
    have h1 : (((List.range n).filter R).take L).Nodup := ((List.nodup_range.filter R)).sublist (List.take_sublist _ _)
    have h2 : ∀ p, p ∈ ((List.range n).filter R).take L → p < n := fun p hp => List.mem_range.1 (List.mem_filter.1 (List.mem_of_mem_take hp)).1
    generalize ((List.range n).filter R).take L = l at h1 h2
    induction l with
    | nil => simp
    | cons a l ih =>
      have h1' := List.nodup_cons.1 h1
      rw [List.map_cons]
      refine List.nodup_cons.2 ⟨fun hm => ?_, ih h1'.2 fun p hp => h2 p (List.mem_cons_of_mem _ hp)⟩
      obtain ⟨b, hb, e⟩ := List.mem_map.1 hm
      have ha := h2 a (List.mem_cons_self ..)
      have hb2 := h2 b (List.mem_cons_of_mem _ hb)
      have : b = a := by omega
      rw [this] at hb
      exact h1'.1 hb
  refine zero_of_roots (G := G) ((((List.range n).filter R).take L).map fun p => n - 1 - p) (lst f L) hx ?_ ?_ (lst_El he) ?_ (f i) (List.mem_map.2 ⟨i, List.mem_range.2 hi, rfl⟩)
  · intro j hj
    obtain ⟨p, hp, rfl⟩ := List.mem_map.1 hj
    have := List.mem_range.1 (List.mem_filter.1 (List.mem_of_mem_take hp)).1
    omega
  · rw [lst_length, List.length_map, List.length_take]
    unfold cnt at hc
    omega
  · intro j hj
    obtain ⟨p, hp, rfl⟩ := List.mem_map.1 hj
    have hm := List.mem_filter.1 (List.mem_of_mem_take hp)
    rw [← hv_ev _ he]
    exact hz p (List.mem_range.1 hm.1) hm.2

/-! ### products -/
/-- the coefficient at k of the product. -/
def conv (G : Fd) (a b : Nat → Nat) (k : Nat) : Nat := sx (fun i => G.mul (a i) (b (k - i))) (k + 1)
theorem conv_congr {a a' b b' : Nat → Nat} {k : Nat} (h1 : ∀ i, i ≤ k → a i = a' i) (h2 : ∀ i, i ≤ k → b i = b' i) : conv G a b k = conv G a' b' k :=
  sx_congr fun i hi => by rw [h1 i (by omega), h2 (k - i) (by omega)]
theorem conv_El {a : Nat → Nat} (b : Nat → Nat) {k : Nat} (h : ∀ i, i ≤ k → G.El (a i)) : G.El (conv G a b k) := sx_El fun i hi => G.El_mul (h i (by omega)) _
theorem conv_xor_right {a b b' : Nat → Nat} {k : Nat} (h : ∀ i, i ≤ k → G.El (a i)) : conv G a (fun i => b i ^^^ b' i) k = conv G a b k ^^^ conv G a b' k := by
  unfold conv
  rw [← sx_xor]
  exact sx_congr fun i hi => G.mul_xor (h i (by omega)) _ _
theorem conv_xor_left {a a' b : Nat → Nat} {k : Nat} (h : ∀ i, i ≤ k → G.El (a i)) (h' : ∀ i, i ≤ k → G.El (a' i)) : conv G (fun i => a i ^^^ a' i) b k = conv G a b k ^^^ conv G a' b k := by
  unfold conv
  rw [← sx_xor]
  exact sx_congr fun i hi => G.xor_mul (h i (by omega)) (h' i (by omega)) _
theorem conv_mul_left {a b : Nat → Nat} {k g : Nat} (hg : G.El g) (h : ∀ i, i ≤ k → G.El (a i)) (hb : ∀ i, i ≤ k → G.El (b i)) : conv G (fun i => G.mul g (a i)) b k = G.mul g (conv G a b k) := by
  unfold conv
  rw [sx_mul' hg]
  exact sx_congr fun i hi => G.mul_assoc hg (h i (by omega)) (hb _ (by omega))
/-- moved on by one. -/
def mov (a : Nat → Nat) : Nat → Nat
  | 0 => 0
  | i + 1 => a i
theorem conv_mov (a b : Nat → Nat) (k : Nat) : conv G (mov a) b (k + 1) = conv G a b k := by
  unfold conv
  rw [sx_shift]
  show G.mul 0 _ ^^^ _ = _
  rw [G.zero_mul, Nat.zero_xor]
  refine sx_congr fun i hi => ?_
  show G.mul (a i) (b (k + 1 - (i + 1))) = _
  have : k + 1 - (i + 1) = k - i := by omega
  rw [this]
/-- the product with the sums of powers. -/
theorem conv_pow {a Y : Nat → Nat} {n k : Nat} (ha : ∀ i, i ≤ k → G.El (a i)) (hY : ∀ i, i < n → G.El (Y i)) : conv G a (fun j => hv G Y (G.pw j) n) k = sx (fun p => G.mul (Y p) (hv G a (G.pw (n - 1 - p)) (k + 1))) n := by
  unfold conv
  have h1 : ∀ i, i < k + 1 → G.mul (a i) (hv G Y (G.pw (k - i)) n) = sx (fun p => G.mul (a i) (G.mul (Y p) (G.pw ((k - i) * (n - 1 - p))))) n := fun i hi => by
    rw [hv_sx _ hY, sx_mul' (ha i (by omega))]
  rw [sx_congr h1, sx_swap]
  refine sx_congr fun p hp => ?_
  rw [hv_sx _ (fun i hi => ha i (by omega)), sx_mul' (hY p hp)]
  refine sx_congr fun i hi => ?_
  have e : (n - 1 - p) * (k + 1 - 1 - i) = (k - i) * (n - 1 - p) := by rw [Nat.mul_comm]; rfl
  rw [e, ← G.mul_assoc (ha i (by omega)) (hY p hp) (G.El_pw _), G.mul_comm (ha i (by omega)) (hY p hp), G.mul_assoc (hY p hp) (ha i (by omega)) (G.El_pw _)]
end
end Go.Proofs.YtnpkkcbadcmgkaaGreatDoor.Gf

namespace Go.Proofs.YtnpkkcbadcmgkaaGreatDoor.Gf
section
variable {G : Fd} {n D μ : Nat} {S : Nat → Nat} {gone : Nat → Bool}

/-- where the search of the locator stands: D sums S; of the places below n so many are gone; the locator lo has degree L, and ea is what it is bettered by; the sums below k are done. -/
structure Bm (G : Fd) (n D μ : Nat) (S : Nat → Nat) (gone : Nat → Bool) (k L : Nat) (lo ea : Nat → Nat) : Prop where
  one : lo 0 = 1
  lE : ∀ i, i ≤ D → G.El (lo i)
  bE : ∀ i, i ≤ D → G.El (ea i)
  sup : ∀ i, L < i → i ≤ D → lo i = 0
  bsup : ∀ i, k + μ - L < i → i ≤ D → ea i = 0
  z : ∀ j, L ≤ j → j < k → conv G lo S j = 0
  bz : ∀ j, k + μ - L ≤ j → j < k → conv G ea S j = if j + 1 = k then 1 else 0
  mu : μ ≤ L
  Lk : L ≤ k
  kD : k ≤ D
  lg : ∀ p, p < n → gone p = true → hv G lo (G.pw (n - 1 - p)) (D + 1) = 0
  bg : ∀ p, p < n → gone p = true → hv G ea (G.pw (n - 1 - p)) (D + 1) = 0
  min : ∀ Y : Nat → Nat, (∀ i, i < n → G.El (Y i)) → (∀ j, j < D → S j = hv G Y (G.pw j) n) → L ≤ μ + cnt (fun p => Y p != 0 && !gone p) n

theorem lo_at {lo : Nat → Nat} {L : Nat} (lE : ∀ i, i ≤ D → G.El (lo i)) (sup : ∀ i, L < i → i ≤ D → lo i = 0) (e j : Nat) (h1 : L ≤ j) (h2 : j ≤ D) : hv G lo (G.pw e) (j + 1) = G.mul (hv G lo (G.pw e) (L + 1)) (G.pw (e * (j - L))) := by
  have h := hv_pad (G := G) (f := lo) e (L + 1) (j - L) (fun i hi => lE i (by omega)) (fun i h3 h4 => sup i (by omega) (by omega))
  have e1 : L + 1 + (j - L) = j + 1 := by omega
  rw [e1] at h
  exact h
theorem lo_zero {lo : Nat → Nat} {L : Nat} (lE : ∀ i, i ≤ D → G.El (lo i)) (sup : ∀ i, L < i → i ≤ D → lo i = 0) (hL : L ≤ D) (e : Nat) (h : hv G lo (G.pw e) (D + 1) = 0) : hv G lo (G.pw e) (L + 1) = 0 := by
  rw [lo_at lE sup e D hL (Nat.le_refl _)] at h
  rcases (G.mul_eq_zero (hv_El _ fun i hi => lE i (by omega)) (G.El_pw _)).1 h with h | h
  · exact h
  · exact (G.pw_ne_zero _ h).elim
/-- the product of the locator and the sums, as a sum over the places. -/
theorem lo_conv {lo Y : Nat → Nat} {L j : Nat} (lE : ∀ i, i ≤ D → G.El (lo i)) (sup : ∀ i, L < i → i ≤ D → lo i = 0) (hY : ∀ i, i < n → G.El (Y i)) (hS : ∀ j, j < D → S j = hv G Y (G.pw j) n) (h1 : L ≤ j) (h2 : j < D) :
    conv G lo S j = hv G (fun p => G.mul (Y p) (hv G lo (G.pw (n - 1 - p)) (L + 1))) (G.pw (j - L)) n := by
  rw [conv_congr (a' := lo) (b' := fun j => hv G Y (G.pw j) n) (fun _ _ => rfl) (fun i hi => hS i (by omega)), conv_pow (fun i hi => lE i (by omega)) hY, hv_sx _ (fun i hi => G.El_mul (hY i hi) _)]
  refine sx_congr fun p hp => ?_
  rw [lo_at lE sup _ j h1 (by omega), ← G.mul_assoc (hY p hp) (hv_El _ fun i hi => lE i (by omega)) (G.El_pw _), Nat.mul_comm (n - 1 - p)]

variable {k L : Nat} {lo ea : Nat → Nat}

theorem Bm.less (h : Bm G n D μ S gone k L lo ea) {Y : Nat → Nat} (p : Nat) (hp : p < n) (h0 : G.mul (Y p) (hv G lo (G.pw (n - 1 - p)) (L + 1)) ≠ 0) : Y p ≠ 0 ∧ gone p = false := by
  refine ⟨fun e => h0 (by rw [e, G.zero_mul]), ?_⟩
  cases hg : gone p
  · rfl
  · exact (h0 (by rw [lo_zero h.lE h.sup (Nat.le_trans h.Lk h.kD) _ (h.lg p hp hg), G.mul_zero])).elim

/-- what grows is no longer than it must be. -/
theorem Bm.grows (hn : n ≤ G.n) (h : Bm G n D μ S gone k L lo ea) (hk : k < D) (hgap : conv G lo S k ≠ 0) {Y : Nat → Nat} (hY : ∀ i, i < n → G.El (Y i)) (hS : ∀ j, j < D → S j = hv G Y (G.pw j) n) : k + 1 + μ - L ≤ μ + cnt (fun p => Y p != 0 && !gone p) n := by
  have hLk := h.Lk
  apply Classical.byContradiction
  intro hlt
  have hZE : ∀ i, i < n → G.El (G.mul (Y i) (hv G lo (G.pw (n - 1 - i)) (L + 1))) := fun i hi => G.El_mul (hY i hi) _
  have hc : cnt (fun p => G.mul (Y p) (hv G lo (G.pw (n - 1 - p)) (L + 1)) != 0) n ≤ k - L := by
    refine Nat.le_trans (cnt_mono (Q := fun p => Y p != 0 && !gone p) fun p hp hz => ?_) (by omega)
    obtain ⟨h1, h2⟩ := h.less p hp (by simpa using hz)
    simp [h1, h2]
  have hz := dist_fn (G := G) (J := 0) hn hZE (fun j _ hj => by
    have := lo_conv (G := G) (n := n) h.lE h.sup hY hS (j := L + j) (by omega) (by omega)
    rw [h.z _ (by omega) (by omega)] at this
    have e : L + j - L = j := by omega
    rw [e] at this
    exact this.symm) hc
  refine hgap ?_
  rw [lo_conv (G := G) (n := n) h.lE h.sup hY hS hLk hk]
  exact hv_zeros _ hz

/-- earlier is moved on. -/
structure Bm1 (G : Fd) (n D μ : Nat) (S : Nat → Nat) (gone : Nat → Bool) (k L : Nat) (e1 : Nat → Nat) : Prop where
  zero : e1 0 = 0
  bE : ∀ i, i ≤ D → G.El (e1 i)
  bsup : ∀ i, k + 1 + μ - L < i → i ≤ D → e1 i = 0
  bz : ∀ j, k + 1 + μ - L ≤ j → j < k + 1 → conv G e1 S j = if j = k then 1 else 0
  bg : ∀ p, p < n → gone p = true → hv G e1 (G.pw (n - 1 - p)) (D + 1) = 0
theorem Bm.mov (h : Bm G n D μ S gone k L lo ea) (hk : k < D) {e1 : Nat → Nat} (he : ∀ i, i ≤ D → e1 i = Gf.mov ea i) : Bm1 G n D μ S gone k L e1 := by
  have hmu := h.mu
  have hLk := h.Lk
  refine ⟨(he 0 (by omega)).trans rfl, fun i hi => ?_, fun i h1 h2 => ?_, fun j h1 h2 => ?_, fun p hp hg => ?_⟩
  · rw [he i hi]
    cases i with
    | zero => exact G.El_zero
    | succ i => exact h.bE i (by omega)
  · rw [he i h2]
    cases i with
    | zero => rfl
    | succ i => exact h.bsup i (by omega) (by omega)
  · cases j with
    | zero => omega
    | succ j =>
      rw [conv_congr (a' := Gf.mov ea) (b' := S) (fun i hi => he i (by omega)) (fun _ _ => rfl), conv_mov, h.bz j (by omega) (by omega)]
  · rw [hv_congr (g := Gf.mov ea) _ (fun i hi => he i (by omega)), hv_shift _ rfl]
    show hv G ea _ D = 0
    have h0 := h.bg p hp hg
    have h1 : G.mul (hv G ea (G.pw (n - 1 - p)) D) (G.pw (n - 1 - p)) ^^^ ea D = 0 := h0
    rw [h.bsup D (by omega) (Nat.le_refl _), Nat.xor_zero] at h1
    rcases (G.mul_eq_zero (hv_El _ fun i hi => h.bE i (by omega)) (G.El_pw _)).1 h1 with h2 | h2
    · exact h2
    · exact (G.pw_ne_zero _ h2).elim

theorem Bm.same (h : Bm G n D μ S gone k L lo ea) (hk : k < D) {e1 : Nat → Nat} (h1 : Bm1 G n D μ S gone k L e1) (h0 : conv G lo S k = 0) : Bm G n D μ S gone (k + 1) L lo e1 :=
  ⟨h.one, h.lE, h1.bE, h.sup, h1.bsup, fun j a b => by
    rcases Nat.lt_or_ge j k with c | c
    · exact h.z j a c
    · have : j = k := by omega
      rw [this]; exact h0, fun j a b => by
    rw [h1.bz j a b]
    by_cases c : j = k
    · rw [if_pos c, if_pos (by omega)]
    · rw [if_neg c, if_neg (by omega)], h.mu, by have := h.Lk; omega, by omega, h.lg, h1.bg, h.min⟩

theorem lo_add_conv {g : Nat} {l1 e1 : Nat → Nat} (lE : ∀ i, i ≤ D → G.El (lo i)) (bE : ∀ i, i ≤ D → G.El (e1 i)) (hg : G.El g) (hS : ∀ j, j < D → G.El (S j)) (hl : ∀ i, i ≤ D → l1 i = lo i ^^^ G.mul g (e1 i)) {j : Nat} (hj : j < D) : conv G l1 S j = conv G lo S j ^^^ G.mul g (conv G e1 S j) := by
  rw [conv_congr (a' := fun i => lo i ^^^ G.mul g (e1 i)) (b' := S) (fun i hi => hl i (by omega)) (fun _ _ => rfl), conv_xor_left (fun i hi => lE i (by omega)) (fun i hi => G.El_mul hg _), conv_mul_left hg (fun i hi => bE i (by omega)) (fun i hi => hS i (by omega))]
theorem hv_mul_left {f : Nat → Nat} {g : Nat} (hg : G.El g) (x : Nat) (hx : G.El x) : ∀ {k : Nat}, (∀ i, i < k → G.El (f i)) → hv G (fun i => G.mul g (f i)) x k = G.mul g (hv G f x k)
  | 0, _ => (G.mul_zero g).symm
  | k + 1, h => by
    show G.mul (hv G _ x k) x ^^^ G.mul g (f k) = G.mul g (G.mul (hv G f x k) x ^^^ f k)
    rw [hv_mul_left hg x hx (k := k) (fun i hi => h i (by omega)), G.mul_xor hg, G.mul_assoc hg (hv_El x fun i hi => h i (by omega)) hx]
theorem lo_add_hv {g : Nat} {l1 e1 : Nat → Nat} (lE : ∀ i, i ≤ D → G.El (lo i)) (bE : ∀ i, i ≤ D → G.El (e1 i)) (hg : G.El g) (hl : ∀ i, i ≤ D → l1 i = lo i ^^^ G.mul g (e1 i)) (e : Nat) (h1 : hv G lo (G.pw e) (D + 1) = 0) (h2 : hv G e1 (G.pw e) (D + 1) = 0) : hv G l1 (G.pw e) (D + 1) = 0 := by
  rw [hv_congr (g := fun i => lo i ^^^ G.mul g (e1 i)) _ (fun i hi => hl i (by omega)), hv_xor _ (fun i hi => lE i (by omega)) (fun i hi => G.El_mul hg _), hv_mul_left hg _ (G.El_pw _) (fun i hi => bE i (by omega)), h1, h2, G.mul_zero]; rfl

/-- the locator is bettered, its degree stays. -/
theorem Bm.better (hS : ∀ j, j < D → G.El (S j)) (h : Bm G n D μ S gone k L lo ea) (hk : k < D) {e1 l1 : Nat → Nat} (h1 : Bm1 G n D μ S gone k L e1) (hl : ∀ i, i ≤ D → l1 i = lo i ^^^ G.mul (conv G lo S k) (e1 i)) (hd : k + μ < 2 * L) : Bm G n D μ S gone (k + 1) L l1 e1 := by
  have hmu := h.mu
  have hLk := h.Lk
  have hg : G.El (conv G lo S k) := conv_El _ fun i hi => h.lE i (by omega)
  refine ⟨?_, fun i hi => ?_, h1.bE, fun i a b => ?_, h1.bsup, fun j a b => ?_, fun j a b => ?_, h.mu, by omega, by omega, fun p hp hgo => ?_, h1.bg, h.min⟩
  · rw [hl 0 (by omega), h1.zero, G.mul_zero, h.one, Nat.xor_zero]
  · rw [hl i hi]; exact G.El_xor (h.lE i hi) (G.El_mul hg _)
  · rw [hl i b, h.sup i a b, h1.bsup i (by omega) b, G.mul_zero]; rfl
  · rw [lo_add_conv h.lE h1.bE hg hS hl (by omega), h1.bz j (by omega) b]
    rcases Nat.lt_or_ge j k with c | c
    · rw [h.z j a c, if_neg (by omega), G.mul_zero]; rfl
    · have : j = k := by omega
      rw [this, if_pos rfl, G.mul_one hg, Nat.xor_self]
  · rw [h1.bz j a b]
    by_cases c : j = k
    · rw [if_pos c, if_pos (by omega)]
    · rw [if_neg c, if_neg (by omega)]
  · exact lo_add_hv h.lE h1.bE hg hl _ (h.lg p hp hgo) (h1.bg p hp hgo)

/-- the locator grows. -/
theorem Bm.grow (hn : n ≤ G.n) (hS : ∀ j, j < D → G.El (S j)) (h : Bm G n D μ S gone k L lo ea) (hk : k < D) {e1 l1 e2 : Nat → Nat} {iv : Nat} (h1 : Bm1 G n D μ S gone k L e1) (hl : ∀ i, i ≤ D → l1 i = lo i ^^^ G.mul (conv G lo S k) (e1 i)) (hiv : G.El iv) (hi1 : G.mul iv (conv G lo S k) = 1) (he2 : ∀ i, i ≤ D → e2 i = e1 i ^^^ G.mul iv (l1 i)) (hd : 2 * L ≤ k + μ) : Bm G n D μ S gone (k + 1) (k + 1 + μ - L) l1 e2 := by
  have hmu := h.mu
  have hLk := h.Lk
  have hg : G.El (conv G lo S k) := conv_El _ fun i hi => h.lE i (by omega)
  have hne : conv G lo S k ≠ 0 := fun e => by rw [e, G.mul_zero] at hi1; cases hi1
  have hl1 : ∀ i, i ≤ D → G.El (l1 i) := fun i hi => by rw [hl i hi]; exact G.El_xor (h.lE i hi) (G.El_mul hg _)
  have he : ∀ i, i ≤ D → e2 i = G.mul iv (lo i) := fun i hi => by
    rw [he2 i hi, hl i hi, G.mul_xor hiv, ← G.mul_assoc hiv hg (h1.bE i hi), hi1, G.one_mul (h1.bE i hi), Nat.xor_comm (G.mul iv (lo i)), xor_cancel_left]
  refine ⟨?_, hl1, fun i hi => ?_, fun i a b => ?_, fun i a b => ?_, fun j a b => ?_, fun j a b => ?_, by omega, by omega, by omega, fun p hp hgo => ?_, fun p hp hgo => ?_, fun Y hY hYS => h.grows hn hk hne hY hYS⟩
  · rw [hl 0 (by omega), h1.zero, G.mul_zero, h.one, Nat.xor_zero]
  · rw [he i hi]; exact G.El_mul hiv _
  · rw [hl i b, h.sup i (by omega) b, h1.bsup i (by omega) b, G.mul_zero]; rfl
  · rw [he i b, h.sup i (by omega) b, G.mul_zero]
  · rw [lo_add_conv h.lE h1.bE hg hS hl (by omega), h1.bz j (by omega) b]
    rcases Nat.lt_or_ge j k with c | c
    · rw [h.z j (by omega) c, if_neg (by omega), G.mul_zero]; rfl
    · have : j = k := by omega
      rw [this, if_pos rfl, G.mul_one hg, Nat.xor_self]
  · rw [conv_congr (a' := fun i => G.mul iv (lo i)) (b' := S) (fun i hi => he i (by omega)) (fun _ _ => rfl), conv_mul_left hiv (fun i hi => h.lE i (by omega)) (fun i hi => hS i (by omega))]
    rcases Nat.lt_or_ge j k with c | c
    · rw [h.z j (by omega) c, if_neg (by omega), G.mul_zero]
    · have : j = k := by omega
      rw [this, if_pos rfl, hi1]
  · exact lo_add_hv h.lE h1.bE hg hl _ (h.lg p hp hgo) (h1.bg p hp hgo)
  · rw [hv_congr (g := fun i => G.mul iv (lo i)) _ (fun i hi => he i (by omega)), hv_mul_left hiv _ (G.El_pw _) (fun i hi => h.lE i (by omega)), h.lg p hp hgo, G.mul_zero]

/-- where it begins. -/
theorem Bm.start (hμ : μ ≤ D) (one : lo 0 = 1) (lE : ∀ i, i ≤ D → G.El (lo i)) (sup : ∀ i, μ < i → i ≤ D → lo i = 0) (lg : ∀ p, p < n → gone p = true → hv G lo (G.pw (n - 1 - p)) (D + 1) = 0) (he : ∀ i, i ≤ D → ea i = lo i) : Bm G n D μ S gone μ μ lo ea :=
  ⟨one, lE, fun i hi => by rw [he i hi]; exact lE i hi, sup, fun i a b => by rw [he i b]; exact sup i (by omega) b, fun j a b => by omega, fun j a b => by omega, Nat.le_refl _, Nat.le_refl _, hμ, lg, fun p hp hg => by rw [hv_congr (g := lo) _ (fun i hi => he i (by omega))]; exact lg p hp hg, fun Y _ _ => Nat.le_add_right _ _⟩

/-! ### what comes of it -/
/-- the places that the locator tells. -/
def root (G : Fd) (n L : Nat) (lo : Nat → Nat) (p : Nat) : Bool := hv G lo (G.pw (n - 1 - p)) (L + 1) == 0

theorem root_le (hn : n ≤ G.n) (one : lo 0 = 1) (lE : ∀ i, i ≤ L → G.El (lo i)) : cnt (root G n L lo) n ≤ L := by
  apply Classical.byContradiction
  intro hlt
  have := roots_fn (G := G) (f := lo) (L := L + 1) (n := n) (R := root G n L lo) hn (fun i hi => lE i (by omega)) (by omega) (fun p hp hr => by simpa [root] using hr) 0 (by omega)
  omega

theorem slope_ne (hn : n ≤ G.n) (one : lo 0 = 1) (lE : ∀ i, i ≤ L → G.El (lo i)) (hc : L ≤ cnt (root G n L lo) n) {q : Nat} (hq : q < n) (hr : root G n L lo q = true) : slo G lo (G.pw (n - 1 - q)) (L + 1) ≠ 0 := by
  intro h0
  have hL : 0 < L := by
    rcases Nat.eq_zero_or_pos L with e | e
    · subst e
      have h1 : hv G lo (G.pw (n - 1 - q)) 1 = 0 := by simpa [root] using hr
      have h2 : G.mul 0 (G.pw (n - 1 - q)) ^^^ lo 0 = 0 := h1
      rw [G.zero_mul, one] at h2; cases h2
    · exact e
  have hE : ∀ i, i < L → G.El (hv G lo (G.pw (n - 1 - q)) (i + 1)) := fun i hi => hv_El _ fun j hj => lE j (by omega)
  have h1 := roots_fn (G := G) (f := fun i => hv G lo (G.pw (n - 1 - q)) (i + 1)) (L := L) (n := n) (R := root G n L lo) hn hE hc (fun p hp hp2 => by
    have hs := hv_shift (G := G) (f := fun i => hv G lo (G.pw (n - 1 - q)) i) (G.pw (n - 1 - p)) rfl L
    rw [← hs]
    by_cases e : p = q
    · rw [e]; exact h0
    · have hd := hv_div (G := G) (f := lo) (G.El_pw (n - 1 - p)) (G.El_pw (n - 1 - q)) (k := L + 1) (fun i hi => lE i (by omega))
      have a1 : hv G lo (G.pw (n - 1 - p)) (L + 1) = 0 := by simpa [root] using hp2
      have a2 : hv G lo (G.pw (n - 1 - q)) (L + 1) = 0 := by simpa [root] using hr
      rw [a1, a2, Nat.xor_self] at hd
      rcases (G.mul_eq_zero (G.El_xor (G.El_pw _) (G.El_pw _)) (hv_El _ fun i hi => hv_El _ fun j hj => lE j (by omega))).1 hd with h3 | h3
      · have := G.pw_inj (show n - 1 - p < G.n by omega) (show n - 1 - q < G.n by omega) (eq_of_xor h3)
        omega
      · exact h3) 0 hL
  have h2 : G.mul 0 (G.pw (n - 1 - q)) ^^^ lo 0 = 0 := h1
  rw [G.zero_mul, one] at h2; cases h2

/-- WHAT IS MISSING makes up for the sums. -/
theorem mended_sums {first : Nat} {miss : Nat → Nat} (hn : n ≤ G.n) (hS : ∀ j, j < D → G.El (S j)) (one : lo 0 = 1) (lE : ∀ i, i ≤ D → G.El (lo i)) (sup : ∀ i, L < i → i ≤ D → lo i = 0) (hL : L ≤ D) (z : ∀ j, L ≤ j → j < D → conv G lo S j = 0) (hc : L ≤ cnt (root G n L lo) n)
    (hE : ∀ p, p < n → G.El (miss p)) (h0 : ∀ p, p < n → root G n L lo p = false → miss p = 0)
    (h1 : ∀ p, p < n → root G n L lo p = true → G.mul (miss p) (G.mul (slo G lo (G.pw (n - 1 - p)) (L + 1)) (G.pw (first * (n - 1 - p)))) = hv G (fun i => conv G lo S i) (G.pw (n - 1 - p)) L) :
    ∀ j, j < D → S j = hv G miss (G.pw (first + j)) n := by
  have hYE : ∀ p, p < n → G.El (G.mul (miss p) (G.pw (first * (n - 1 - p)))) := fun p hp => G.El_mul (hE p hp) _
  have hYj : ∀ j, hv G (fun p => G.mul (miss p) (G.pw (first * (n - 1 - p)))) (G.pw j) n = hv G miss (G.pw (first + j)) n := fun j => by
    rw [hv_sx _ hYE, hv_sx _ hE]
    refine sx_congr fun p hp => ?_
    rw [G.mul_assoc (hE p hp) (G.El_pw _) (G.El_pw _), G.pw_mul, Nat.add_mul]
  have hsl : ∀ p, G.El (slo G lo (G.pw (n - 1 - p)) (L + 1)) := fun p => hv_El _ fun i hi => hv_El _ fun j hj => lE j (by omega)
  have hRE : ∀ j, j < D → G.El (S j ^^^ hv G miss (G.pw (first + j)) n) := fun j hj => G.El_xor (hS j hj) (hv_El _ hE)
  have hlo : ∀ i, i ≤ D → G.El (lo i) := lE
  -- the product with what is left
  have hconv : ∀ j, j < D → conv G lo (fun j => S j ^^^ hv G miss (G.pw (first + j)) n) j = conv G lo S j ^^^ sx (fun p => G.mul (G.mul (miss p) (G.pw (first * (n - 1 - p)))) (hv G lo (G.pw (n - 1 - p)) (j + 1))) n := fun j hj => by
    rw [conv_xor_right (fun i hi => lE i (by omega)), ← conv_pow (fun i hi => lE i (by omega)) hYE]
    congr 1
    exact conv_congr (fun _ _ => rfl) (fun i _ => (hYj i).symm)
  have hroot : ∀ p, p < n → root G n L lo p = true → hv G lo (G.pw (n - 1 - p)) (L + 1) = 0 := fun p _ hr => by simpa [root] using hr
  have hhigh : ∀ j, L ≤ j → j < D → conv G lo (fun j => S j ^^^ hv G miss (G.pw (first + j)) n) j = 0 := fun j a b => by
    rw [hconv j b, z j a b, Nat.zero_xor]
    refine sx_zero fun p hp => ?_
    cases hr : root G n L lo p
    · rw [h0 p hp hr, G.zero_mul, G.zero_mul]
    · rw [lo_at lE sup _ j a (by omega), hroot p hp hr, G.zero_mul, G.mul_zero]
  have hlow : ∀ i, i < L → conv G lo (fun j => S j ^^^ hv G miss (G.pw (first + j)) n) i = 0 := by
    refine roots_fn (G := G) (n := n) (R := root G n L lo) hn (fun i hi => conv_El _ fun j hj => lE j (by omega)) hc (fun q hq hr => ?_)
    have e1 : hv G (fun i => conv G lo (fun j => S j ^^^ hv G miss (G.pw (first + j)) n) i) (G.pw (n - 1 - q)) L = hv G (fun i => conv G lo S i) (G.pw (n - 1 - q)) L ^^^ hv G (fun j => sx (fun p => G.mul (G.mul (miss p) (G.pw (first * (n - 1 - p)))) (hv G lo (G.pw (n - 1 - p)) (j + 1))) n) (G.pw (n - 1 - q)) L := by
      rw [← hv_xor _ (fun i hi => conv_El _ fun j hj => lE j (by omega)) (fun i hi => sx_El fun p hp => G.El_mul (hYE p hp) _)]
      exact hv_congr _ fun i hi => hconv i (by omega)
    have e2 : hv G (fun j => sx (fun p => G.mul (G.mul (miss p) (G.pw (first * (n - 1 - p)))) (hv G lo (G.pw (n - 1 - p)) (j + 1))) n) (G.pw (n - 1 - q)) L = sx (fun p => G.mul (G.mul (miss p) (G.pw (first * (n - 1 - p)))) (hv G (fun i => hv G lo (G.pw (n - 1 - p)) (i + 1)) (G.pw (n - 1 - q)) L)) n := by
      rw [hv_sx _ (fun i hi => sx_El fun p hp => G.El_mul (hYE p hp) _)]
      rw [sx_congr (fun i hi => sx_mul _ (fun p hp => G.El_mul (hYE p hp) _)), sx_swap]
      refine sx_congr fun p hp => ?_
      have hE2 : ∀ i, i < L → G.El (hv G lo (G.pw (n - 1 - p)) (i + 1)) := fun i hi => hv_El _ fun j hj => lE j (by omega)
      rw [hv_sx _ hE2, sx_mul' (hYE p hp)]
      exact sx_congr fun i hi => G.mul_assoc (hYE p hp) (hE2 i hi) (G.El_pw _)
    have e3 : ∀ p, p < n → p ≠ q → G.mul (G.mul (miss p) (G.pw (first * (n - 1 - p)))) (hv G (fun i => hv G lo (G.pw (n - 1 - p)) (i + 1)) (G.pw (n - 1 - q)) L) = 0 := fun p hp hne => by
      cases hrp : root G n L lo p
      · rw [h0 p hp hrp, G.zero_mul, G.zero_mul]
      · rw [← hv_shift (G := G) (f := fun i => hv G lo (G.pw (n - 1 - p)) i) (G.pw (n - 1 - q)) rfl L]
        have hd := hv_div (G := G) (f := lo) (G.El_pw (n - 1 - q)) (G.El_pw (n - 1 - p)) (k := L + 1) (fun i hi => lE i (by omega))
        rw [hroot p hp hrp, hroot q hq hr, Nat.xor_self] at hd
        rcases (G.mul_eq_zero (G.El_xor (G.El_pw _) (G.El_pw _)) (hv_El _ fun i hi => hv_El _ fun j hj => lE j (by omega))).1 hd with h3 | h3
        · have := G.pw_inj (show n - 1 - q < G.n by omega) (show n - 1 - p < G.n by omega) (eq_of_xor h3)
          omega
        · rw [h3, G.mul_zero]
    rw [e1, e2, sx_one hq e3, ← hv_shift (G := G) (f := fun i => hv G lo (G.pw (n - 1 - q)) i) (G.pw (n - 1 - q)) rfl L, ← h1 q hq hr]
    show _ ^^^ G.mul (G.mul (miss q) (G.pw (first * (n - 1 - q)))) (slo G lo (G.pw (n - 1 - q)) (L + 1)) = 0
    rw [G.mul_assoc (hE q hq) (G.El_pw _) (hsl q), G.mul_comm (G.El_pw _) (hsl q), Nat.xor_self]
  have hall : ∀ j, j < D → conv G lo (fun j => S j ^^^ hv G miss (G.pw (first + j)) n) j = 0 := fun j hj => by
    rcases Nat.lt_or_ge j L with a | a
    · exact hlow j a
    · exact hhigh j a hj
  have hR : ∀ j, j < D → S j ^^^ hv G miss (G.pw (first + j)) n = 0 := by
    intro j
    induction j using Nat.strongRecOn with
    | ind j ih =>
      intro hj
      have h2 := hall j hj
      unfold conv at h2
      rw [sx_one (q := 0) (by omega) (fun i hi hne => by
        show G.mul (lo i) (S (j - i) ^^^ hv G miss (G.pw (first + (j - i))) n) = 0
        rw [ih (j - i) (by omega) (by omega), G.mul_zero]), one, G.one_mul (hRE _ (by omega))] at h2
      exact h2
  exact fun j hj => eq_of_xor (hR j hj)

/-- WHERE ONE IS NEAR ENOUGH, the locator tells its places. -/
theorem Bm.finds (hn : n ≤ G.n) (h : Bm G n D μ S gone D L lo ea) (hμ : cnt gone n = μ) {Y : Nat → Nat} (hY : ∀ i, i < n → G.El (Y i)) (hS : ∀ j, j < D → S j = hv G Y (G.pw j) n) (ht : 2 * cnt (fun p => Y p != 0 && !gone p) n + μ ≤ D) :
    2 * L ≤ D + μ ∧ L ≤ cnt (root G n L lo) n ∧ ∀ p, p < n → (root G n L lo p = true ↔ (Y p ≠ 0 ∨ gone p = true)) := by
  have hm := h.min Y hY hS
  have hLD : L ≤ D := h.Lk
  have hZE : ∀ i, i < n → G.El (G.mul (Y i) (hv G lo (G.pw (n - 1 - i)) (L + 1))) := fun i hi => G.El_mul (hY i hi) _
  have hc : cnt (fun p => G.mul (Y p) (hv G lo (G.pw (n - 1 - p)) (L + 1)) != 0) n ≤ D - L := by
    refine Nat.le_trans (cnt_mono (Q := fun p => Y p != 0 && !gone p) fun p hp hz => ?_) (by omega)
    obtain ⟨h1, h2⟩ := h.less p hp (by simpa using hz)
    simp [h1, h2]
  have hz := dist_fn (G := G) (J := 0) hn hZE (fun j _ hj => by
    have := lo_conv (G := G) (n := n) h.lE h.sup hY hS (j := L + j) (by omega) (by omega)
    rw [h.z _ (by omega) (by omega)] at this
    have e : L + j - L = j := by omega
    rw [e] at this
    exact this.symm) hc
  have hr : ∀ p, p < n → (gone p || (Y p != 0)) = true → root G n L lo p = true := fun p hp ho => by
    unfold root
    rw [beq_iff_eq]
    rcases Bool.or_eq_true_iff.1 ho with hg | hy
    · exact lo_zero h.lE h.sup hLD _ (h.lg p hp hg)
    · rcases (G.mul_eq_zero (hY p hp) (hv_El _ fun i hi => h.lE i (by omega))).1 (hz p hp) with e | e
      · simp [e] at hy
      · exact e
  have hcc := cnt_or gone (fun p => Y p != 0) n
  have hle := cnt_mono (n := n) hr
  have hge := root_le (G := G) (n := n) (L := L) hn h.one (fun i hi => h.lE i (by omega))
  have heq := cnt_eq (n := n) hr (by rw [hcc, hμ]; omega)
  refine ⟨by omega, by rw [hcc, hμ] at hle; omega, fun p hp => ⟨fun e => ?_, fun e => hr p hp ?_⟩⟩
  · have := heq p hp e
    rcases Bool.or_eq_true_iff.1 this with h1 | h1
    · exact Or.inr h1
    · exact Or.inl (by simpa using h1)
  · rcases e with e | e
    · simp [e]
    · simp [e]
end
end Go.Proofs.YtnpkkcbadcmgkaaGreatDoor.Gf

namespace Go.Proofs.YtnpkkcbadcmgkaaGreatDoor.Gf
variable {c : Cd}

/-! ### of a code -/
theorem cnt_add (P : Nat → Bool) (a : Nat) : ∀ b, cnt P (a + b) = cnt P a + cnt (fun i => P (a + i)) b
  | 0 => rfl
  | b + 1 => by
    show cnt P (a + b + 1) = _
    rw [cnt_succ, cnt_succ, cnt_add P a b, Nat.add_assoc]
theorem cnt_none {P : Nat → Bool} : ∀ {n : Nat}, (∀ i, i < n → P i = false) → cnt P n = 0
  | 0, _ => rfl
  | n + 1, h => by
    rw [cnt_succ, cnt_none (n := n) (fun i hi => h i (by omega)), h n (by omega)]; rfl
theorem cnt_all {P : Nat → Bool} : ∀ {n : Nat}, (∀ i, i < n → P i = true) → cnt P n = n
  | 0, _ => rfl
  | n + 1, h => by
    rw [cnt_succ, cnt_all (n := n) (fun i hi => h i (by omega)), h n (by omega)]; rfl
theorem cnt_one {x : Nat} : ∀ {n : Nat}, x < n → cnt (fun i => i == x) n = 1
  | 0, h => by omega
  | n + 1, h => by
    rw [cnt_succ]
    rcases Nat.lt_or_ge x n with h1 | h1
    · rw [cnt_one h1]
      have : (n == x) = false := by rw [beq_eq_false_iff_ne]; omega
      rw [this]; rfl
    · have : x = n := by omega
      subst this
      rw [cnt_none (fun i hi => by rw [beq_eq_false_iff_ne]; omega)]; simp
theorem cnt_mem {m : Nat} : ∀ {z : List Nat}, z.Nodup → (∀ x, x ∈ z → x < m) → cnt (fun i => z.contains i) m = z.length
  | [], _, _ => cnt_none fun i _ => by simp
  | x :: z, hnd, hlt => by
    have h1 := List.nodup_cons.1 hnd
    have e : cnt (fun i => (x :: z).contains i) m = cnt (fun i => z.contains i || (i == x)) m := cnt_congr fun i _ => by
      rw [List.contains_cons, Bool.or_comm]
    rw [e, cnt_or, cnt_mem h1.2 (fun y hy => hlt y (List.mem_cons_of_mem _ hy))]
    have e2 : cnt (fun i => (i == x) && !z.contains i) m = cnt (fun i => i == x) m := cnt_congr fun i _ => by
      by_cases h : i = x
      · subst h
        have : z.contains i = false := by
          cases hc : z.contains i
          · rfl
          · exact absurd (List.contains_iff_mem.1 hc) h1.1
        rw [this]; simp
      · have : (i == x) = false := by rw [beq_eq_false_iff_ne]; exact h
        rw [this]; rfl
    rw [e2, cnt_one (hlt x (List.mem_cons_self ..))]; rfl

/-- what has come, as a full word. -/
def full0 (c : Cd) (l : List Nat) (p : Nat) : Nat := if c.short ≤ p then l.getD (p - c.short) 0 else 0
/-- the places that are gone. -/
def gone0 (c : Cd) (z : List Nat) (p : Nat) : Bool := decide (c.n ≤ p + c.cut) || (decide (c.short ≤ p) && z.contains (p - c.short))
def Near (c : Cd) (u l z : List Nat) : Prop := 2 * dif (fun i => !z.contains i) (c.word u) l (c.n - c.short - c.cut) + z.length + c.cut < c.delta
/-- what has come is as it must be. -/
structure Came (c : Cd) (l z : List Nat) : Prop where
  ok : c.Ok
  len : l.length = c.n - c.short - c.cut
  sy : c.AllSy l
  nd : z.Nodup
  lt : ∀ x, x ∈ z → x < c.n - c.short - c.cut

variable {l z : List Nat}
theorem Came.el (h : Came c l z) : AllEl c.G l := fun a ha => (h.sy a ha).1
theorem full0_El (h : Came c l z) (p : Nat) : c.G.El (full0 c l p) := by
  unfold full0
  split
  · exact getD_El h.el _
  · exact c.G.El_zero
theorem Came.room (h : Came c l z) : c.short + (c.n - c.short - c.cut) + c.cut = c.n := by
  have h1 := K_le h.ok
  have h2 := h.ok.s
  omega
theorem gone_cnt (h : Came c l z) : cnt (gone0 c z) c.n = z.length + c.cut := by
  have hr := h.room
  have hcnt : cnt (gone0 c z) (c.short + (c.n - c.short - c.cut) + c.cut) = z.length + c.cut := by
    rw [cnt_add, cnt_add, cnt_none (fun i hi => ?_), cnt_congr (Q := fun i => z.contains i) (fun i hi => ?_), cnt_mem h.nd h.lt, cnt_all (fun i hi => ?_), Nat.zero_add]
    · unfold gone0
      have a : decide (c.n ≤ c.short + (c.n - c.short - c.cut) + i + c.cut) = true := by rw [decide_eq_true_iff]; omega
      rw [a]; rfl
    · unfold gone0
      have a : decide (c.n ≤ c.short + i + c.cut) = false := by rw [decide_eq_false_iff_not]; omega
      have b : decide (c.short ≤ c.short + i) = true := by rw [decide_eq_true_iff]; omega
      have e : c.short + i - c.short = i := by omega
      rw [a, b, e]; rfl
    · unfold gone0
      have a : decide (c.n ≤ i + c.cut) = false := by rw [decide_eq_false_iff_not]; omega
      have b : decide (c.short ≤ i) = false := by rw [decide_eq_false_iff_not]; omega
      rw [a, b]; rfl
  rw [hr] at hcnt
  exact hcnt
theorem gone_lt (h : Came c l z) (hd : cnt (gone0 c z) c.n < c.delta) : z.length + c.cut < c.delta := by rw [gone_cnt h] at hd; exact hd

/-- the word that was sent, as a function. -/
def sent (c : Cd) (u : List Nat) (p : Nat) : Nat := (c.fl (List.replicate c.short 0 ++ u)).getD p 0
theorem sent_El {u : List Nat} (ok : c.Ok) (hu : msg c u) (p : Nat) : c.G.El (sent c u p) := getD_El (pad_full ok hu).el _
theorem sent_lst {u : List Nat} (ok : c.Ok) (hu : msg c u) : lst (sent c u) c.n = c.fl (List.replicate c.short 0 ++ u) := by
  have hl := (pad_full ok hu).len
  refine ext_getD (by rw [lst_length, hl]) fun k hk => ?_
  rw [lst_length] at hk
  rw [lst_getD _ hk]; rfl
theorem sent_sums {u : List Nat} (ok : c.Ok) (hu : msg c u) {j : Nat} (hj : j < c.delta - 1) : hv c.G (sent c u) (c.G.pw (c.first + j)) c.n = 0 := by
  rw [hv_ev _ (fun i _ => sent_El ok hu i), sent_lst ok hu]
  exact (pad_full ok hu).at (by omega) (by omega)
theorem sent_short {u : List Nat} (ok : c.Ok) (hu : msg c u) {p : Nat} (hp : p < c.short) : sent c u p = 0 := by
  have ht := fl_take (c := c) (pad_len ok hu)
  have hK := ok.s
  have h1 : (c.fl (List.replicate c.short 0 ++ u)).getD p 0 = ((c.fl (List.replicate c.short 0 ++ u)).take c.K).getD p 0 := by
    rw [List.getD_eq_getElem?_getD, List.getD_eq_getElem?_getD, List.getElem?_take_of_lt (by omega)]
  unfold sent
  rw [h1, ht, List.getD_eq_getElem?_getD, List.getElem?_append_left (by simpa using hp)]
  simp [hp]
theorem sent_word {u : List Nat} {i : Nat} (hi : i < c.n - c.short - c.cut) : (c.word u).getD i 0 = sent c u (c.short + i) := by
  unfold Cd.word sent
  rw [List.getD_eq_getElem?_getD, List.getD_eq_getElem?_getD, List.getElem?_take_of_lt hi, List.getElem?_drop]
theorem sent_Sy {u : List Nat} (ok : c.Ok) (hu : msg c u) (hs : c.AllSy u) {p : Nat} (hp : p < c.n) : c.Sy (sent c u p) := by
  refine ⟨sent_El ok hu p, fun hb => ?_⟩
  have h := fl_bits hb (pad_len ok hu) (fun a ha => by
    rcases List.mem_append.1 ha with h | h
    · have := (List.mem_replicate.1 h).2; omega
    · exact (hs a h).2 hb)
  have hl := (pad_full ok hu).len
  refine h _ ?_
  unfold sent
  rw [List.getD_eq_getElem?_getD, List.getElem?_eq_getElem (by rw [hl]; exact hp)]
  exact List.getElem_mem _

/-- by how much each place is turned, times its power. -/
def turn (c : Cd) (l u : List Nat) (p : Nat) : Nat := c.G.mul (full0 c l p ^^^ sent c u p) (c.G.pw (c.first * (c.n - 1 - p)))
theorem turn_El {u : List Nat} (h : Came c l z) (hu : msg c u) (p : Nat) : c.G.El (turn c l u p) := c.G.El_mul (c.G.El_xor (full0_El h p) (sent_El h.ok hu p)) _
theorem turn_ne {u : List Nat} (h : Came c l z) (hu : msg c u) {p : Nat} : turn c l u p ≠ 0 ↔ full0 c l p ≠ sent c u p := by
  unfold turn
  rw [Ne, c.G.mul_eq_zero (c.G.El_xor (full0_El h p) (sent_El h.ok hu p)) (c.G.El_pw _)]
  constructor
  · intro h1 h2; exact h1 (Or.inl (by rw [h2, Nat.xor_self]))
  · rintro h1 (h2 | h2)
    · exact h1 (eq_of_xor h2)
    · exact c.G.pw_ne_zero _ h2
theorem turn_sums {u : List Nat} (h : Came c l z) (hu : msg c u) {j : Nat} (hj : j < c.delta - 1) : hv c.G (full0 c l) (c.G.pw (c.first + j)) c.n = hv c.G (turn c l u) (c.G.pw j) c.n := by
  have e1 : hv c.G (turn c l u) (c.G.pw j) c.n = hv c.G (fun p => full0 c l p ^^^ sent c u p) (c.G.pw (c.first + j)) c.n := by
    have hE : ∀ p, p < c.n → c.G.El (full0 c l p ^^^ sent c u p) := fun p _ => c.G.El_xor (full0_El h p) (sent_El h.ok hu p)
    rw [hv_sx _ (fun i _ => turn_El h hu i), hv_sx _ hE]
    refine sx_congr fun p hp => ?_
    unfold turn
    rw [c.G.mul_assoc (hE p hp) (c.G.El_pw _) (c.G.El_pw _), c.G.pw_mul, Nat.add_mul]
  rw [e1, hv_xor _ (fun i _ => full0_El h i) (fun i _ => sent_El h.ok hu i), sent_sums h.ok hu hj, Nat.xor_zero]
theorem turn_cnt {u : List Nat} (h : Came c l z) (hu : msg c u) : cnt (fun p => turn c l u p != 0 && !gone0 c z p) c.n = dif (fun i => !z.contains i) (c.word u) l (c.n - c.short - c.cut) := by
  have hr := h.room
  have hcnt : cnt (fun p => turn c l u p != 0 && !gone0 c z p) (c.short + (c.n - c.short - c.cut) + c.cut) = dif (fun i => !z.contains i) (c.word u) l (c.n - c.short - c.cut) := by
    rw [cnt_add, cnt_add, cnt_none (fun i hi => ?_), cnt_none (n := c.cut) (fun i hi => ?_), Nat.zero_add, Nat.add_zero]
    · show cnt _ _ = cnt _ _
      refine cnt_congr fun i hi => ?_
      have g : gone0 c z (c.short + i) = z.contains i := by
        unfold gone0
        have a : decide (c.n ≤ c.short + i + c.cut) = false := by rw [decide_eq_false_iff_not]; omega
        have b : decide (c.short ≤ c.short + i) = true := by rw [decide_eq_true_iff]; omega
        have e : c.short + i - c.short = i := by omega
        rw [a, b, e]; rfl
      rw [g, sent_word hi, Bool.and_comm]
      congr 1
      have f : full0 c l (c.short + i) = l.getD i 0 := by
        unfold full0
        rw [if_pos (by omega)]
        have e : c.short + i - c.short = i := by omega
        rw [e]
      have ht := turn_ne h hu (p := c.short + i)
      rw [f] at ht
      cases h1 : (turn c l u (c.short + i) != 0) <;> cases h2 : (sent c u (c.short + i) != l.getD i 0)
      · rfl
      · have a : turn c l u (c.short + i) = 0 := by simpa using h1
        have b : sent c u (c.short + i) ≠ l.getD i 0 := by rw [bne_iff_ne] at h2; exact h2
        exact absurd a (ht.2 (Ne.symm b))
      · have a : turn c l u (c.short + i) ≠ 0 := by rw [bne_iff_ne] at h1; exact h1
        have b : sent c u (c.short + i) = l.getD i 0 := by rw [bne_eq_false_iff_eq] at h2; exact h2
        exact absurd b.symm (ht.1 a)
      · rfl
    · have a : gone0 c z (c.short + (c.n - c.short - c.cut) + i) = true := by
        unfold gone0
        have : decide (c.n ≤ c.short + (c.n - c.short - c.cut) + i + c.cut) = true := by rw [decide_eq_true_iff]; omega
        rw [this]; rfl
      rw [a]; simp
    · have a : turn c l u i = 0 := by
        apply Classical.byContradiction
        intro hne
        refine (turn_ne h hu).1 hne ?_
        rw [sent_short h.ok hu hi]
        unfold full0
        rw [if_neg (by omega)]
      rw [a]; rfl
  rw [hr] at hcnt
  exact hcnt

/-- the sums of what has come. -/
def sum0 (c : Cd) (l : List Nat) (j : Nat) : Nat := hv c.G (full0 c l) (c.G.pw (c.first + j)) c.n
theorem sum0_El (h : Came c l z) (j : Nat) : c.G.El (sum0 c l j) := hv_El _ fun i _ => full0_El h i
def NoNear (c : Cd) (l z : List Nat) : Prop := ∀ u, msg c u → c.AllSy u → ¬ Near c u l z

/-- the locator, found. -/
abbrev BmC (c : Cd) (l z : List Nat) (k L : Nat) (lo ea : Nat → Nat) : Prop := Bm c.G c.n (c.delta - 1) (cnt (gone0 c z) c.n) (sum0 c l) (gone0 c z) k L lo ea

theorem no_losses (h : Came c l z) (hd : c.delta ≤ cnt (gone0 c z) c.n) : NoNear c l z := fun u _ _ hn => by
  rw [gone_cnt h] at hd
  unfold Near at hn
  omega
theorem near_finds (h : Came c l z) {L : Nat} {lo ea : Nat → Nat} (hb : BmC c l z (c.delta - 1) L lo ea) {u : List Nat} (hu : msg c u) (hn : Near c u l z) :
    2 * L < c.delta + cnt (gone0 c z) c.n ∧ L ≤ cnt (root c.G c.n L lo) c.n ∧ ∀ p, p < c.n → (root c.G c.n L lo p = true ↔ (turn c l u p ≠ 0 ∨ gone0 c z p = true)) := by
  have hd := h.ok.d2
  have hf := Bm.finds (n := c.n) (Nat.le_refl _) hb rfl (Y := turn c l u) (fun i _ => turn_El h hu i) (fun j hj => turn_sums h hu hj) (by
    rw [turn_cnt h hu, gone_cnt h]
    unfold Near at hn
    omega)
  exact ⟨by omega, hf.2⟩
theorem no_turns (h : Came c l z) {L : Nat} {lo ea : Nat → Nat} (hb : BmC c l z (c.delta - 1) L lo ea) (hd : c.delta + cnt (gone0 c z) c.n ≤ 2 * L) : NoNear c l z := fun u hu _ hn => by
  have := (near_finds h hb hu hn).1
  omega
theorem no_places (h : Came c l z) {L : Nat} {lo ea : Nat → Nat} (hb : BmC c l z (c.delta - 1) L lo ea) (hd : cnt (root c.G c.n L lo) c.n < L) : NoNear c l z := fun u hu _ hn => by
  have := (near_finds h hb hu hn).2.1
  omega

/-- what has been mended. -/
structure Done (c : Cd) (l z : List Nat) (L : Nat) (lo : Nat → Nat) (f : Nat → Nat) : Prop where
  el : ∀ p, p < c.n → c.G.El (f p)
  z : ∀ j, j < c.delta - 1 → hv c.G f (c.G.pw (c.first + j)) c.n = 0
  off : ∀ p, p < c.n → root c.G c.n L lo p = false → f p = full0 c l p
/-- where one is near enough, it is that. -/
theorem near_done (h : Came c l z) {L : Nat} {lo ea f : Nat → Nat} (hb : BmC c l z (c.delta - 1) L lo ea) (hf : Done c l z L lo f) {u : List Nat} (hu : msg c u) (hn : Near c u l z) : ∀ p, p < c.n → f p = sent c u p := by
  obtain ⟨_, _, h3⟩ := near_finds h hb hu hn
  have hL := hb.Lk
  have hr := root_le (G := c.G) (n := c.n) (L := L) (Nat.le_refl _) hb.one (fun i hi => hb.lE i (by omega))
  have hz := dist_fn (G := c.G) (Z := fun p => f p ^^^ sent c u p) (n := c.n) (d := c.delta - 1) (J := c.first) (Nat.le_refl _) (fun i hi => c.G.El_xor (hf.el i hi) (sent_El h.ok hu i)) (fun j h1 h2 => by
    obtain ⟨t, rfl⟩ : ∃ t, j = c.first + t := ⟨j - c.first, by omega⟩
    rw [hv_xor _ hf.el (fun i _ => sent_El h.ok hu i), hf.z t (by omega), sent_sums h.ok hu (by omega)]; rfl) (by
    refine Nat.le_trans (cnt_mono (Q := root c.G c.n L lo) fun p hp hne => ?_) (by omega)
    cases hrp : root c.G c.n L lo p
    · have h1 := hf.off p hp hrp
      have h2 : turn c l u p = 0 := by
        apply Classical.byContradiction
        intro hne2
        have := (h3 p hp).2 (Or.inl hne2)
        rw [hrp] at this; cases this
      have h4 : full0 c l p = sent c u p := by
        apply Classical.byContradiction
        intro hne2
        exact (turn_ne h hu).2 hne2 h2
      rw [h1, h4, Nat.xor_self] at hne
      simp at hne
    · rfl)
  exact fun p hp => eq_of_xor (hz p hp)
theorem no_done (h : Came c l z) {L : Nat} {lo ea f : Nat → Nat} (hb : BmC c l z (c.delta - 1) L lo ea) (hf : Done c l z L lo f) {p : Nat} (hp : p < c.n) (hbad : (p < c.short ∧ f p ≠ 0) ∨ ¬ c.Sy (f p)) : NoNear c l z := fun u hu hs hn => by
  have e := near_done h hb hf hu hn p hp
  rcases hbad with ⟨h1, h2⟩ | h1
  · exact h2 (by rw [e, sent_short h.ok hu h1])
  · exact h1 (by rw [e]; exact sent_Sy h.ok hu hs hp)

theorem pow_zero_bits {w : List Nat} (hb : ∀ a, a ∈ w → a ≤ 1) (hE : AllEl c.G w) {j : Nat} (hz : ev c.G j w = 0) : ∀ h, ev c.G (j * 2 ^ h) w = 0
  | 0 => by simpa using hz
  | h + 1 => by
    have ih := pow_zero_bits hb hE hz h
    have hs := ev_sq (G := c.G) (j * 2 ^ h) hE
    have hm : w.map (fun a => c.G.mul a a) = w := by
      refine (List.map_congr_left fun a ha => ?_).trans (List.map_id _)
      exact (bit_sq (hE a ha)).2 (hb a ha)
    rw [hm, ih, c.G.mul_zero] at hs
    have e : 2 * (j * 2 ^ h) = j * 2 ^ (h + 1) := by rw [Nat.pow_succ]; ac_rfl
    rw [← e]; exact hs

/-- WHAT IS ANSWERED is a message and its word, and that is near enough. -/
theorem done_word (h : Came c l z) {L : Nat} {lo ea f : Nat → Nat} (hb : BmC c l z (c.delta - 1) L lo ea) (hL : 2 * L < c.delta + cnt (gone0 c z) c.n) (hf : Done c l z L lo f) (h0 : ∀ p, p < c.short → f p = 0) (hs : ∀ p, p < c.n → c.Sy (f p)) :
    msg c (lst (fun i => f (c.short + i)) (c.K - c.short)) ∧ c.AllSy (lst (fun i => f (c.short + i)) (c.K - c.short)) ∧ c.word (lst (fun i => f (c.short + i)) (c.K - c.short)) = lst (fun i => f (c.short + i)) (c.n - c.short - c.cut) ∧ Near c (lst (fun i => f (c.short + i)) (c.K - c.short)) l z := by
  have hrm := h.room
  have hK := h.ok.s
  have hKn := K_le h.ok
  have hF : Full c (lst f c.n) := by
    refine ⟨lst_length _ _, lst_El hf.el, fun j hj => ?_⟩
    obtain ⟨_, t, e, ht, he, rfl⟩ := mem_rts.1 hj
    have hz : ev c.G (c.first + t) (lst f c.n) = 0 := by rw [← hv_ev _ hf.el]; exact hf.z t ht
    have hn : c.n = c.G.n := rfl
    rw [hn, ev_mod]
    cases hbin : c.bin
    · have : c.turns = 1 := by unfold Cd.turns; rw [hbin]; rfl
      have e0 : e = 0 := by omega
      subst e0
      rw [Nat.pow_zero, Nat.mul_one]; exact hz
    · exact pow_zero_bits (c := c) (fun a ha => by
        obtain ⟨p, hp, rfl⟩ := List.mem_map.1 ha
        exact (hs p (List.mem_range.1 hp)).2 hbin) (lst_El hf.el) hz e
  have hm : msg c (lst (fun i => f (c.short + i)) (c.K - c.short)) := ⟨lst_length _ _, lst_El fun i hi => hf.el _ (by omega)⟩
  have hS : c.AllSy (lst (fun i => f (c.short + i)) (c.K - c.short)) := fun a ha => by
    obtain ⟨i, hi, rfl⟩ := List.mem_map.1 ha
    exact hs _ (by have := List.mem_range.1 hi; omega)
  have htake : (lst f c.n).take c.K = List.replicate c.short 0 ++ lst (fun i => f (c.short + i)) (c.K - c.short) := by
    refine ext_getD (by rw [List.length_take, lst_length, List.length_append, List.length_replicate, lst_length]; omega) fun k hk => ?_
    rw [List.length_take, lst_length] at hk
    have e1 : ((lst f c.n).take c.K).getD k 0 = f k := by
      rw [List.getD_eq_getElem?_getD, List.getElem?_take_of_lt (by omega), ← List.getD_eq_getElem?_getD, lst_getD _ (by omega)]
    rw [e1, List.getD_eq_getElem?_getD]
    rcases Nat.lt_or_ge k c.short with a | a
    · rw [List.getElem?_append_left (by simpa using a)]
      rw [h0 k a]; simp [a]
    · rw [List.getElem?_append_right (by simpa using a), List.length_replicate, ← List.getD_eq_getElem?_getD, lst_getD _ (by omega)]
      have : c.short + (k - c.short) = k := by omega
      rw [this]
  have hfl := full_eq hF
  rw [htake] at hfl
  have hw : c.word (lst (fun i => f (c.short + i)) (c.K - c.short)) = lst (fun i => f (c.short + i)) (c.n - c.short - c.cut) := by
    unfold Cd.word
    rw [hfl]
    refine ext_getD (by rw [List.length_take, List.length_drop, lst_length, lst_length]; omega) fun k hk => ?_
    rw [List.length_take, List.length_drop, lst_length] at hk
    rw [List.getD_eq_getElem?_getD, List.getElem?_take_of_lt (by omega), List.getElem?_drop, ← List.getD_eq_getElem?_getD, lst_getD _ (by omega), lst_getD _ (by omega)]
  refine ⟨hm, hS, hw, ?_⟩
  have hsent : ∀ p, p < c.n → sent c (lst (fun i => f (c.short + i)) (c.K - c.short)) p = f p := fun p hp => by
    unfold sent
    rw [hfl, lst_getD _ hp]
  have ht := turn_cnt h hm
  have hr := root_le (G := c.G) (n := c.n) (L := L) (Nat.le_refl _) hb.one (fun i hi => hb.lE i (by have := hb.Lk; omega))
  have hle : cnt (fun p => gone0 c z p || (turn c l (lst (fun i => f (c.short + i)) (c.K - c.short)) p != 0)) c.n ≤ cnt (root c.G c.n L lo) c.n := by
    refine cnt_mono fun p hp ho => ?_
    rcases Bool.or_eq_true_iff.1 ho with hg | hy
    · unfold root
      rw [beq_iff_eq]
      exact lo_zero hb.lE hb.sup hb.Lk _ (hb.lg p hp hg)
    · cases hrp : root c.G c.n L lo p
      · have h1 := hf.off p hp hrp
        rw [bne_iff_ne] at hy
        have h2 := (turn_ne h hm).1 hy
        rw [hsent p hp] at h2
        exact absurd h1.symm h2
      · rfl
  rw [cnt_or, ht] at hle
  unfold Near
  rw [gone_cnt h] at hL hle
  omega
end Go.Proofs.YtnpkkcbadcmgkaaGreatDoor.Gf

namespace Go.Proofs.YtnpkkcbadcmgkaaGreatDoor.Gf
section
variable {G : Fd} {n D : Nat} {gone : Nat → Bool}
/-- the locator of the places below k that are gone. -/
structure Lo (G : Fd) (n D : Nat) (gone : Nat → Bool) (k m : Nat) (lo : Nat → Nat) : Prop where
  one : lo 0 = 1
  lE : ∀ i, i ≤ D → G.El (lo i)
  sup : ∀ i, m < i → i ≤ D → lo i = 0
  mD : m ≤ D
  cn : cnt gone k = m
  lg : ∀ p, p < k → gone p = true → hv G lo (G.pw (n - 1 - p)) (D + 1) = 0

theorem Lo.start {lo : Nat → Nat} (h0 : lo 0 = 1) (h1 : ∀ i, 0 < i → i ≤ D → lo i = 0) : Lo G n D gone 0 0 lo :=
  ⟨h0, fun i hi => by
    rcases Nat.eq_zero_or_pos i with e | e
    · rw [e, h0]; exact G.El_one
    · rw [h1 i e hi]; exact G.El_zero, h1, Nat.zero_le _, rfl, fun p hp => by omega⟩
theorem Lo.skip {k m : Nat} {lo : Nat → Nat} (h : Lo G n D gone k m lo) (hg : gone k = false) : Lo G n D gone (k + 1) m lo :=
  ⟨h.one, h.lE, h.sup, h.mD, by rw [cnt_succ, hg, h.cn]; rfl, fun p hp hgp => by
    rcases Nat.lt_or_ge p k with a | a
    · exact h.lg p a hgp
    · have : p = k := by omega
      rw [this, hg] at hgp; cases hgp⟩
theorem Lo.take {k m : Nat} {lo l1 : Nat → Nat} (h : Lo G n D gone k m lo) (hg : gone k = true) (hm : m + 1 ≤ D) (e0 : l1 0 = lo 0) (e1 : ∀ i, i + 1 ≤ D → l1 (i + 1) = lo (i + 1) ^^^ G.mul (lo i) (G.pw (n - 1 - k))) : Lo G n D gone (k + 1) (m + 1) l1 := by
  have hl : ∀ i, i ≤ D → l1 i = lo i ^^^ G.mul (G.pw (n - 1 - k)) (mov lo i) := fun i hi => by
    cases i with
    | zero => rw [e0]; show lo 0 = lo 0 ^^^ G.mul _ 0; rw [G.mul_zero, Nat.xor_zero]
    | succ i =>
      rw [e1 i hi]
      show _ = lo (i + 1) ^^^ G.mul _ (lo i)
      rw [G.mul_comm (h.lE i (by omega)) (G.El_pw _)]
  have hmE : ∀ i, i ≤ D → G.El (mov lo i) := fun i hi => by
    cases i with
    | zero => exact G.El_zero
    | succ i => exact h.lE i (by omega)
  have hz : ∀ e, hv G lo (G.pw e) (D + 1) = G.mul (hv G lo (G.pw e) D) (G.pw e) := fun e => by
    show G.mul (hv G lo (G.pw e) D) (G.pw e) ^^^ lo D = _
    rw [h.sup D (by omega) (Nat.le_refl _), Nat.xor_zero]
  have hE : ∀ e, G.El (hv G lo (G.pw e) D) := fun e => hv_El _ fun i hi => h.lE i (by omega)
  have hv1 : ∀ e, hv G l1 (G.pw e) (D + 1) = G.mul (hv G lo (G.pw e) D) (G.pw e) ^^^ G.mul (G.pw (n - 1 - k)) (hv G lo (G.pw e) D) := fun e => by
    rw [hv_congr (g := fun i => lo i ^^^ G.mul (G.pw (n - 1 - k)) (mov lo i)) _ (fun i hi => hl i (by omega)), hv_xor _ (fun i hi => h.lE i (by omega)) (fun i hi => G.El_mul (G.El_pw _) _), hv_mul_left (G.El_pw _) _ (G.El_pw _) (fun i hi => hmE i (by omega)), hz, hv_shift _ rfl]
    rfl
  refine ⟨by rw [e0]; exact h.one, fun i hi => by rw [hl i hi]; exact G.El_xor (h.lE i hi) (G.El_mul (G.El_pw _) _), fun i a b => ?_, hm, by rw [cnt_succ, hg, h.cn]; rfl, fun p hp hgp => ?_⟩
  · rw [hl i b, h.sup i (by omega) b]
    cases i with
    | zero => omega
    | succ i =>
      show 0 ^^^ G.mul _ (lo i) = 0
      rw [h.sup i (by omega) (by omega), G.mul_zero]; rfl
  · rw [hv1]
    rcases Nat.lt_or_ge p k with a | a
    · have h0 := h.lg p a hgp
      rw [hz] at h0
      rcases (G.mul_eq_zero (hE _) (G.El_pw _)).1 h0 with b | b
      · rw [b, G.zero_mul, G.mul_zero]; rfl
      · exact (G.pw_ne_zero _ b).elim
    · have : p = k := by omega
      rw [this, G.mul_comm (hE _) (G.El_pw _), Nat.xor_self]
end
end Go.Proofs.YtnpkkcbadcmgkaaGreatDoor.Gf
