namespace Go.Proofs.YtnpkkcbadcmgkaaGreatDoor.Gf

/-- twice, and reduced by the modulus q of degree m. -/
def stepX (m q v : Nat) : Nat := if 2 * v / 2 ^ m = 1 then (2 * v) ^^^ q else 2 * v

/-- the product by Horner's rule, j bits of b taken (from the highest). -/
def acc (m q a b : Nat) : Nat → Nat
  | 0 => 0
  | j + 1 => stepX m q (acc m q a b j) ^^^ (if b / 2 ^ (m - 1 - j) % 2 = 1 then a else 0)

def mul (m q a b : Nat) : Nat := acc m q a b m

def itX (m q : Nat) : Nat → Nat → Nat
  | 0, v => v
  | i + 1, v => stepX m q (itX m q i v)

def pw (m q i : Nat) : Nat := itX m q i 1

def ordN (m : Nat) : Nat := 2 ^ m - 1

structure Deg (m q : Nat) : Prop where
  m1 : 1 ≤ m
  top : q / 2 ^ m = 1

structure IsField (m q : Nat) : Prop extends Deg m q where
  prim : ∀ i, 0 < i → i < ordN m → pw m q i ≠ 1
  last : pw m q (ordN m) = 1
  m2 : 2 ≤ m

theorem deg_lo {m q : Nat} (h : Deg m q) : 2 ^ m ≤ q := by
  have := h.top
  have h2 : 0 < 2 ^ m := Nat.two_pow_pos m
  have := (Nat.div_eq_iff h2).1 this
  omega
theorem deg_hi {m q : Nat} (h : Deg m q) : q < 2 * 2 ^ m := by
  have := h.top
  have h2 : 0 < 2 ^ m := Nat.two_pow_pos m
  have := (Nat.div_eq_iff h2).1 this
  omega

theorem testBit_top {m u : Nat} (hu : u < 2 * 2 ^ m) : (u / 2 ^ m = 1) ↔ u.testBit m = true := by
  rw [Nat.testBit_eq_decide_div_mod_eq]
  have h2 : 0 < 2 ^ m := Nat.two_pow_pos m
  have h3 : u / 2 ^ m < 2 := (Nat.div_lt_iff_lt_mul h2).2 (by omega)
  generalize u / 2 ^ m = t at h3 ⊢
  simp; omega

theorem lt_of_top {m u : Nat} (hu : u < 2 * 2 ^ m) (ht : u.testBit m = false) : u < 2 ^ m := by
  have h2 : 0 < 2 ^ m := Nat.two_pow_pos m
  have h := testBit_top hu
  rw [ht] at h
  have h3 : u / 2 ^ m ≠ 1 := by intro e; have := h.1 e; contradiction
  have h5 : u / 2 ^ m < 2 := (Nat.div_lt_iff_lt_mul h2).2 (by omega)
  have h4 : u / 2 ^ m = 0 := by
    generalize u / 2 ^ m = t at h3 h5 ⊢
    omega
  exact (Nat.div_eq_zero_iff_lt h2).1 h4

def red (m q u : Nat) : Nat := if u.testBit m then u ^^^ q else u

theorem stepX_red {m q v : Nat} (hv : v < 2 ^ m) : stepX m q v = red m q (2 * v) := by
  unfold stepX red
  have := testBit_top (m := m) (u := 2 * v) (by omega)
  by_cases h : (2 * v).testBit m = true
  · rw [if_pos h, if_pos (this.2 h)]
  · rw [if_neg h, if_neg (fun e => h (this.1 e))]

theorem red_xor (m q u v : Nat) : red m q (u ^^^ v) = red m q u ^^^ red m q v := by
  unfold red
  rw [Nat.testBit_xor]
  cases hu : u.testBit m <;> cases hv : v.testBit m <;> simp
  · rw [Nat.xor_assoc]
  · rw [Nat.xor_assoc, Nat.xor_comm v q, ← Nat.xor_assoc]
  · apply Nat.eq_of_testBit_eq; intro i; simp [Nat.testBit_xor]
    cases u.testBit i <;> cases v.testBit i <;> cases q.testBit i <;> rfl

theorem red_lt {m q u : Nat} (h : Deg m q) (hu : u < 2 * 2 ^ m) : red m q u < 2 ^ m := by
  unfold red
  have hq := deg_hi h
  have hqt : q.testBit m = true := (testBit_top hq).1 h.top
  split
  · next ht =>
    apply lt_of_top
    · have : u ^^^ q < 2 ^ (m + 1) := Nat.xor_lt_two_pow (by rw [Nat.pow_succ]; omega) (by rw [Nat.pow_succ]; omega)
      rw [Nat.pow_succ] at this; omega
    · rw [Nat.testBit_xor, ht, hqt]; rfl
  · next ht => exact lt_of_top hu (by simpa using ht)

theorem stepX_lt {m q v : Nat} (h : Deg m q) (hv : v < 2 ^ m) : stepX m q v < 2 ^ m := by
  rw [stepX_red hv]; exact red_lt h (by omega)

theorem two_mul_xor (a b : Nat) : 2 * (a ^^^ b) = (2 * a) ^^^ (2 * b) := by
  have := Nat.shiftLeft_xor_distrib (a := a) (b := b) (i := 1)
  simpa [Nat.shiftLeft_eq, Nat.mul_comm] using this

theorem stepX_xor {m q a b : Nat} (ha : a < 2 ^ m) (hb : b < 2 ^ m) :
    stepX m q (a ^^^ b) = stepX m q a ^^^ stepX m q b := by
  rw [stepX_red ha, stepX_red hb, stepX_red (Nat.xor_lt_two_pow ha hb), two_mul_xor, red_xor]

theorem stepX_zero {m q : Nat} : stepX m q 0 = 0 := by
  unfold stepX; simp

theorem acc_lt {m q a b : Nat} (h : Deg m q) (ha : a < 2 ^ m) : ∀ j, acc m q a b j < 2 ^ m
  | 0 => Nat.two_pow_pos m
  | j + 1 => by
    unfold acc
    refine Nat.xor_lt_two_pow (stepX_lt h (acc_lt h ha j)) ?_
    split
    · exact ha
    · exact Nat.two_pow_pos m

theorem mul_lt {m q a b : Nat} (h : Deg m q) (ha : a < 2 ^ m) : mul m q a b < 2 ^ m := acc_lt h ha m

theorem xor4 (a b c d : Nat) : (a ^^^ b) ^^^ (c ^^^ d) = (a ^^^ c) ^^^ (b ^^^ d) := by
  apply Nat.eq_of_testBit_eq; intro i; simp [Nat.testBit_xor]
  cases a.testBit i <;> cases b.testBit i <;> cases c.testBit i <;> cases d.testBit i <;> rfl

theorem acc_xor_left {m q a a' b : Nat} (h : Deg m q) (ha : a < 2 ^ m) (ha' : a' < 2 ^ m) :
    ∀ j, acc m q (a ^^^ a') b j = acc m q a b j ^^^ acc m q a' b j
  | 0 => by simp [acc]
  | j + 1 => by
    simp only [acc]
    rw [acc_xor_left h ha ha' j, stepX_xor (acc_lt h ha j) (acc_lt h ha' j), xor4]
    congr 1
    split <;> simp

theorem bit_xor (b b' k : Nat) : (b ^^^ b') / 2 ^ k % 2 = 1 ↔ ¬ ((b / 2 ^ k % 2 = 1) ↔ (b' / 2 ^ k % 2 = 1)) := by
  have e : ∀ x : Nat, (x / 2 ^ k % 2 = 1) ↔ x.testBit k = true := by
    intro x; rw [Nat.testBit_eq_decide_div_mod_eq]; simp
  rw [e, e, e, Nat.testBit_xor]
  cases b.testBit k <;> cases b'.testBit k <;> simp

theorem acc_xor_right {m q a b b' : Nat} (h : Deg m q) (ha : a < 2 ^ m) :
    ∀ j, acc m q a (b ^^^ b') j = acc m q a b j ^^^ acc m q a b' j
  | 0 => by simp [acc]
  | j + 1 => by
    simp only [acc]
    rw [acc_xor_right h ha j, stepX_xor (acc_lt h ha j) (acc_lt h ha j), xor4]
    congr 1
    have := bit_xor b b' (m - 1 - j)
    by_cases h1 : b / 2 ^ (m - 1 - j) % 2 = 1 <;> by_cases h2 : b' / 2 ^ (m - 1 - j) % 2 = 1 <;> simp [h1, h2] at this ⊢ <;> simp [this]

theorem acc_stepX {m q a b : Nat} (h : Deg m q) (ha : a < 2 ^ m) :
    ∀ j, acc m q (stepX m q a) b j = stepX m q (acc m q a b j)
  | 0 => by simp [acc, stepX_zero]
  | j + 1 => by
    simp only [acc]
    rw [acc_stepX h ha j]
    have h1 := stepX_lt h (acc_lt (b := b) h ha j)
    split
    · rw [stepX_xor h1 ha]
    · rw [stepX_xor h1 (Nat.two_pow_pos m), stepX_zero]

theorem two_mul_xor_bit (u c : Nat) (hc : c < 2) : (2 * u) ^^^ c = 2 * u + c := by
  have h := @Nat.two_pow_add_eq_or_of_lt 1 c (by omega) u
  have : c = 0 ∨ c = 1 := by omega
  rcases this with rfl | rfl
  · simp
  · have : (2 * u) ^^^ 1 = (2 * u) ||| 1 := by
      apply Nat.eq_of_testBit_eq; intro i
      simp [Nat.testBit_xor, Nat.testBit_or]
      cases i with
      | zero => simp
      | succ i => simp [Nat.testBit_succ]
    rw [this]; simpa using h.symm

theorem acc_one {m q b : Nat} (hb : b < 2 ^ m) : ∀ j, j ≤ m → acc m q 1 b j = b / 2 ^ (m - j)
  | 0, _ => by simp [acc, Nat.div_eq_of_lt hb]
  | j + 1, hj => by
    simp only [acc]
    rw [acc_one hb j (by omega)]
    have e1 : m - j = (m - (j + 1)) + 1 := by omega
    have e2 : m - 1 - j = m - (j + 1) := by omega
    rw [e2, e1, Nat.pow_succ, ← Nat.div_div_eq_div_mul]
    generalize hu : b / 2 ^ (m - (j + 1)) = u
    have hul : u < 2 ^ (j + 1) := by
      rw [← hu]
      apply (Nat.div_lt_iff_lt_mul (Nat.two_pow_pos _)).2
      rw [← Nat.pow_add]
      have : j + 1 + (m - (j + 1)) = m := by omega
      rw [this]; exact hb
    have hlt : 2 * (u / 2) < 2 ^ m := by
      have : 2 ^ (j + 1) ≤ 2 ^ m := Nat.pow_le_pow_right (by omega) hj
      omega
    unfold stepX
    rw [if_neg (by rw [Nat.div_eq_of_lt hlt]; omega)]
    by_cases h : u % 2 = 1
    · rw [if_pos h, two_mul_xor_bit _ _ (by omega)]; omega
    · rw [if_neg h]; simp; omega

theorem mul_one_left {m q b : Nat} (hb : b < 2 ^ m) : mul m q 1 b = b := by
  unfold mul; rw [acc_one hb m (Nat.le_refl m)]; simp

theorem mul_xor_left {m q a a' b : Nat} (h : Deg m q) (ha : a < 2 ^ m) (ha' : a' < 2 ^ m) :
    mul m q (a ^^^ a') b = mul m q a b ^^^ mul m q a' b := acc_xor_left h ha ha' m
theorem mul_xor_right {m q a b b' : Nat} (h : Deg m q) (ha : a < 2 ^ m) :
    mul m q a (b ^^^ b') = mul m q a b ^^^ mul m q a b' := acc_xor_right h ha m
theorem mul_stepX {m q a b : Nat} (h : Deg m q) (ha : a < 2 ^ m) :
    mul m q (stepX m q a) b = stepX m q (mul m q a b) := acc_stepX h ha m

theorem itX_lt {m q v : Nat} (h : Deg m q) (hv : v < 2 ^ m) : ∀ i, itX m q i v < 2 ^ m
  | 0 => hv
  | i + 1 => stepX_lt h (itX_lt h hv i)

theorem itX_add {m q v : Nat} (i : Nat) : ∀ j, itX m q (i + j) v = itX m q j (itX m q i v)
  | 0 => rfl
  | j + 1 => by show stepX m q (itX m q (i + j) v) = _; rw [itX_add i j]; rfl

theorem mul_itX {m q a b : Nat} (h : Deg m q) (ha : a < 2 ^ m) : ∀ i, mul m q (itX m q i a) b = itX m q i (mul m q a b)
  | 0 => rfl
  | i + 1 => by
    show mul m q (stepX m q (itX m q i a)) b = stepX m q (itX m q i (mul m q a b))
    rw [mul_stepX h (itX_lt h ha i), mul_itX h ha i]

theorem one_lt {m : Nat} (h : 1 ≤ m) : 1 < 2 ^ m := Nat.one_lt_two_pow (by omega)

theorem mul_pw {m q b : Nat} (h : Deg m q) (hb : b < 2 ^ m) (i : Nat) : mul m q (pw m q i) b = itX m q i b := by
  unfold pw; rw [mul_itX h (one_lt h.m1), mul_one_left hb]

theorem pw_lt {m q : Nat} (h : Deg m q) (i : Nat) : pw m q i < 2 ^ m := itX_lt h (one_lt h.m1) i

theorem mul_pw_pw {m q : Nat} (h : Deg m q) (i j : Nat) : mul m q (pw m q i) (pw m q j) = pw m q (i + j) := by
  rw [mul_pw h (pw_lt h j), Nat.add_comm i j]
  unfold pw; rw [itX_add]

theorem itX_zero {m q : Nat} : ∀ i, itX m q i 0 = 0
  | 0 => rfl
  | i + 1 => by show stepX m q (itX m q i 0) = 0; rw [itX_zero i, stepX_zero]

theorem pw_add_zero {m q i : Nat} (h : pw m q i = 0) (j : Nat) : pw m q (i + j) = 0 := by
  unfold pw at *; rw [itX_add, h, itX_zero]

theorem ordN_pos {m : Nat} (h : 2 ≤ m) : 3 ≤ ordN m := by
  unfold ordN
  have : 2 ^ 2 ≤ 2 ^ m := Nat.pow_le_pow_right (by omega) h
  omega

section field
variable {m q : Nat}

theorem pw_ord_add (F : IsField m q) (i : Nat) : pw m q (ordN m + i) = pw m q i := by
  have h := F.last
  unfold pw at *; rw [itX_add, h]

theorem pw_mod (F : IsField m q) (i : Nat) : pw m q (i % ordN m) = pw m q i := by
  have hn := ordN_pos F.m2
  have : ∀ k j, pw m q (ordN m * k + j) = pw m q j := by
    intro k
    induction k with
    | zero => intro j; simp
    | succ k ih => intro j; rw [Nat.mul_succ, Nat.add_right_comm, Nat.add_comm, pw_ord_add F, ih]
  have e := Nat.div_add_mod i (ordN m)
  rw [← this (i / ordN m) (i % ordN m), e]

theorem pw_ne_zero (F : IsField m q) (i : Nat) : pw m q i ≠ 0 := by
  intro h
  rw [← pw_mod F] at h
  have hn := ordN_pos F.m2
  have hl := Nat.mod_lt i (show ordN m > 0 by omega)
  have := pw_add_zero h (ordN m - i % ordN m)
  rw [Nat.add_sub_cancel' (Nat.le_of_lt hl), F.last] at this
  omega

theorem itX_ord (F : IsField m q) {v : Nat} (hv : v < 2 ^ m) : itX m q (ordN m) v = v := by
  rw [← mul_pw F.toDeg hv, F.last, mul_one_left hv]

theorem pw_inj (F : IsField m q) {i j : Nat} (hi : i < ordN m) (hj : j < ordN m) (h : pw m q i = pw m q j) : i = j := by
  have key : ∀ i j, i < j → j < ordN m → pw m q i = pw m q j → False := by
    intro i j hij hj h
    have h2 : itX m q (ordN m - j) (pw m q i) = itX m q (ordN m - j) (pw m q j) := by rw [h]
    unfold pw at h2
    rw [← itX_add, ← itX_add, Nat.add_sub_cancel' (Nat.le_of_lt hj)] at h2
    exact F.prim (i + (ordN m - j)) (by omega) (by omega) (by unfold pw; rw [h2]; exact F.last)
  rcases Nat.lt_trichotomy i j with hl | he | hg
  · exact (key i j hl hj h).elim
  · exact he
  · exact (key j i hg hi h.symm).elim
end field

/-- an injective map of the numbers below n into the numbers below n meets them all. -/
theorem pigeon : ∀ (n : Nat) (f : Nat → Nat), (∀ i, i < n → f i < n) → (∀ i j, i < n → j < n → f i = f j → i = j) → ∀ y, y < n → ∃ i, i < n ∧ f i = y
  | 0, _, _, _, y, hy => by omega
  | n + 1, f, hf, hi, y, hy => by
    -- turn the target n and f n round
    let g : Nat → Nat := fun i => if f i = n then f n else f i
    have hg : ∀ i, i < n → g i < n := by
      intro i h
      show (if f i = n then f n else f i) < n
      have h1 := hf i (by omega)
      have h2 := hf n (by omega)
      split
      · next e =>
        have : f n ≠ n := by intro e2; have := hi i n (by omega) (by omega) (by omega); omega
        omega
      · omega
    have hgi : ∀ i j, i < n → j < n → g i = g j → i = j := by
      intro i j h1 h2 h
      have h : (if f i = n then f n else f i) = (if f j = n then f n else f j) := h
      by_cases a : f i = n
      · by_cases b : f j = n
        · exact hi i j (by omega) (by omega) (by omega)
        · rw [if_pos a, if_neg b] at h
          have := hi n j (by omega) (by omega) h; omega
      · by_cases b : f j = n
        · rw [if_neg a, if_pos b] at h
          have := hi i n (by omega) (by omega) h; omega
        · rw [if_neg a, if_neg b] at h
          exact hi i j (by omega) (by omega) h
    by_cases e : f n = y
    · exact ⟨n, by omega, e⟩
    · by_cases e2 : y = n
      · -- y = n: f n < n: some i has g i = f n
        have h3 := hf n (by omega)
        obtain ⟨i, h4, h5⟩ := pigeon n g hg hgi (f n) (by omega)
        have h5 : (if f i = n then f n else f i) = f n := h5
        by_cases a : f i = n
        · exact ⟨i, by omega, by omega⟩
        · rw [if_neg a] at h5
          have := hi i n (by omega) (by omega) h5; omega
      · obtain ⟨i, h4, h5⟩ := pigeon n g hg hgi y (by omega)
        have h5 : (if f i = n then f n else f i) = y := h5
        by_cases a : f i = n
        · rw [if_pos a] at h5; omega
        · rw [if_neg a] at h5; exact ⟨i, by omega, h5⟩

section field
variable {m q : Nat}

theorem pw_surj (F : IsField m q) {a : Nat} (h0 : a ≠ 0) (ha : a < 2 ^ m) : ∃ i, i < ordN m ∧ pw m q i = a := by
  have hn : ordN m + 1 = 2 ^ m := by unfold ordN; have := Nat.two_pow_pos m; omega
  obtain ⟨i, h1, h2⟩ := pigeon (ordN m) (fun i => pw m q i - 1)
    (fun i _ => by have := pw_lt F.toDeg i; have := pw_ne_zero F i; omega)
    (fun i j hi hj h => pw_inj F hi hj (by have := pw_ne_zero F i; have := pw_ne_zero F j; omega))
    (a - 1) (by omega)
  exact ⟨i, h1, by have := pw_ne_zero F i; omega⟩

theorem zero_mul (m q b : Nat) : mul m q 0 b = 0 := by
  have : ∀ j, acc m q 0 b j = 0 := by
    intro j
    induction j with
    | zero => rfl
    | succ j ih => simp [acc, ih, stepX_zero]
  exact this m

theorem mul_zero (m q a : Nat) : mul m q a 0 = 0 := by
  have : ∀ j, acc m q a 0 j = 0 := by
    intro j
    induction j with
    | zero => rfl
    | succ j ih => simp [acc, ih, stepX_zero]
  exact this m

theorem mul_comm (F : IsField m q) {a b : Nat} (ha : a < 2 ^ m) (hb : b < 2 ^ m) : mul m q a b = mul m q b a := by
  by_cases h0 : a = 0
  · rw [h0, zero_mul, mul_zero]
  by_cases h1 : b = 0
  · rw [h1, zero_mul, mul_zero]
  obtain ⟨i, _, rfl⟩ := pw_surj F h0 ha
  obtain ⟨j, _, rfl⟩ := pw_surj F h1 hb
  rw [mul_pw_pw F.toDeg, mul_pw_pw F.toDeg, Nat.add_comm]

theorem mul_assoc (F : IsField m q) {a b c : Nat} (ha : a < 2 ^ m) (hb : b < 2 ^ m) (hc : c < 2 ^ m) :
    mul m q (mul m q a b) c = mul m q a (mul m q b c) := by
  by_cases h0 : a = 0
  · rw [h0, zero_mul, zero_mul, zero_mul]
  by_cases h1 : b = 0
  · rw [h1, zero_mul, mul_zero, zero_mul]
  by_cases h2 : c = 0
  · rw [h2, mul_zero, mul_zero, mul_zero]
  obtain ⟨i, _, rfl⟩ := pw_surj F h0 ha
  obtain ⟨j, _, rfl⟩ := pw_surj F h1 hb
  obtain ⟨k, _, rfl⟩ := pw_surj F h2 hc
  rw [mul_pw_pw F.toDeg, mul_pw_pw F.toDeg, mul_pw_pw F.toDeg, mul_pw_pw F.toDeg, Nat.add_assoc]

theorem mul_one (F : IsField m q) {a : Nat} (ha : a < 2 ^ m) : mul m q a 1 = a := by
  rw [mul_comm F ha (one_lt F.m1), mul_one_left ha]

theorem mul_eq_zero (F : IsField m q) {a b : Nat} (ha : a < 2 ^ m) (hb : b < 2 ^ m) : mul m q a b = 0 ↔ a = 0 ∨ b = 0 := by
  constructor
  · intro h
    by_cases h0 : a = 0
    · exact Or.inl h0
    by_cases h1 : b = 0
    · exact Or.inr h1
    obtain ⟨i, _, rfl⟩ := pw_surj F h0 ha
    obtain ⟨j, _, rfl⟩ := pw_surj F h1 hb
    rw [mul_pw_pw F.toDeg] at h
    exact (pw_ne_zero F _ h).elim
  · rintro (h | h)
    · rw [h, zero_mul]
    · rw [h, mul_zero]

/-- the inverse of x^i. -/
theorem mul_inv_pw (F : IsField m q) {i : Nat} (hi : i < ordN m) : mul m q (pw m q i) (pw m q ((ordN m - i) % ordN m)) = 1 := by
  rw [pw_mod F, mul_pw_pw F.toDeg, Nat.add_sub_cancel' (Nat.le_of_lt hi), F.last]

theorem inv_unique (F : IsField m q) {a b c : Nat} (ha : a < 2 ^ m) (hb : b < 2 ^ m) (hc : c < 2 ^ m) (h1 : mul m q a b = 1) (h2 : mul m q a c = 1) : b = c := by
  have e1 : mul m q b (mul m q a c) = b := by rw [h2, mul_one F hb]
  have e2 : mul m q b (mul m q a c) = c := by
    rw [← mul_assoc F hb ha hc, mul_comm F hb ha, h1, mul_one_left hc]
  rw [← e1, e2]
end field

theorem stepX_two {m q v : Nat} (h : Deg m q) (h2 : 2 ≤ m) (hv : v < 2 ^ m) : mul m q v 2 = stepX m q v := by
  have hb : ∀ j, j + 2 ≤ m → acc m q v 2 j = 0 := by
    intro j
    induction j with
    | zero => intro _; rfl
    | succ j ih =>
      intro hj
      simp only [acc]
      rw [ih (by omega), stepX_zero]
      have : 2 < 2 ^ (m - 1 - j) := by
        have : 2 ^ 2 ≤ 2 ^ (m - 1 - j) := Nat.pow_le_pow_right (by omega) (by omega)
        omega
      rw [Nat.div_eq_of_lt this]; simp
  obtain ⟨k, rfl⟩ : ∃ k, m = k + 2 := ⟨m - 2, by omega⟩
  unfold mul
  show stepX (k + 2) q (stepX (k + 2) q (acc (k + 2) q v 2 k) ^^^ _) ^^^ _ = _
  rw [hb k (by omega), stepX_zero]
  have e1 : k + 2 - 1 - k = 1 := by omega
  have e2 : k + 2 - 1 - (k + 1) = 0 := by omega
  rw [e1, e2]; simp

/-- the reference's own test: the walk of the powers, each by a product with 2. -/
theorem pw_succ (m q i : Nat) : pw m q (i + 1) = stepX m q (pw m q i) := rfl

/-- the tables of logarithms that the program lays: after k powers. -/
def logAt (m q : Nat) : Nat → Nat → Nat
  | 0, _ => 0
  | k + 1, a => if a = pw m q k then k else logAt m q k a

theorem logAt_pw {m q : Nat} (F : IsField m q) {i : Nat} : ∀ {k : Nat}, i < k → k ≤ ordN m → logAt m q k (pw m q i) = i
  | 0, h, _ => by omega
  | k + 1, h, hk => by
    unfold logAt
    by_cases e : i = k
    · subst e; simp
    · rw [if_neg (fun c => e (pw_inj F (by omega) (by omega) c))]
      exact logAt_pw F (by omega) (by omega)

theorem logAt_lt {m q : Nat} {a : Nat} : ∀ {k : Nat}, 0 < k → logAt m q k a < k
  | k + 1, _ => by
    unfold logAt
    split
    · omega
    · cases k with
      | zero => simp [logAt]
      | succ k => have := @logAt_lt m q a (k + 1) (by omega); omega

theorem times_table {m q a b : Nat} (F : IsField m q) (ha : a < 2 ^ m) (hb : b < 2 ^ m) (h0 : a ≠ 0) (h1 : b ≠ 0) :
    pw m q ((logAt m q (ordN m) a + logAt m q (ordN m) b) % ordN m) = mul m q a b := by
  obtain ⟨i, hi, rfl⟩ := pw_surj F h0 ha
  obtain ⟨j, hj, rfl⟩ := pw_surj F h1 hb
  rw [logAt_pw F hi (Nat.le_refl _), logAt_pw F hj (Nat.le_refl _), pw_mod F, mul_pw_pw F.toDeg]

theorem inverse_table {m q a : Nat} (F : IsField m q) (ha : a < 2 ^ m) (h0 : a ≠ 0) :
    mul m q a (pw m q ((ordN m - logAt m q (ordN m) a) % ordN m)) = 1 := by
  obtain ⟨i, hi, rfl⟩ := pw_surj F h0 ha
  rw [logAt_pw F hi (Nat.le_refl _), mul_inv_pw F hi]
end Go.Proofs.YtnpkkcbadcmgkaaGreatDoor.Gf
