/- Plain words on numbers: primes, Fermat's little theorem, Pocklington's test, and that 2^255 - 19 is a prime. Nothing is imported. -/
namespace Go.Proofs.YtnfckoamjeafhaaDoor
set_option linter.unusedVariables false
set_option linter.unusedSimpArgs false

/-! Binomials. -/
def choose : Nat → Nat → Nat
  | _, 0 => 1
  | 0, _ + 1 => 0
  | n + 1, k + 1 => choose n k + choose n (k + 1)
theorem choose_z (n : Nat) : choose n 0 = 1 := by cases n <;> rfl
theorem choose_ss (n k : Nat) : choose (n + 1) (k + 1) = choose n k + choose n (k + 1) := rfl
theorem choose_gt : ∀ n k : Nat, n < k → choose n k = 0
  | 0, 0, h => absurd h (by omega)
  | 0, _ + 1, _ => rfl
  | _ + 1, 0, h => absurd h (by omega)
  | n + 1, k + 1, h => by rw [choose_ss, choose_gt n k (by omega), choose_gt n (k + 1) (by omega)]
theorem choose_mul : ∀ n k : Nat, (n + 1) * choose n k = choose (n + 1) (k + 1) * (k + 1)
  | 0, 0 => rfl
  | 0, k + 1 => by simp [choose]
  | n + 1, 0 => by simp [choose, choose_z]; have := choose_mul n 0; simp [choose, choose_z] at this; omega
  | n + 1, k + 1 => by
    have h1 := choose_mul n k
    have h2 := choose_mul n (k + 1)
    rw [choose_ss (n + 1) (k + 1)]
    rw [Nat.add_mul (choose (n + 1) (k + 1)), ← h2]
    have e : choose (n + 1) (k + 1) * (k + 1 + 1) = choose (n + 1) (k + 1) * (k + 1) + choose (n + 1) (k + 1) := by rw [Nat.mul_add (choose (n + 1) (k + 1)) (k + 1) 1, Nat.mul_one]
    rw [e, ← h1]
    rw [Nat.add_mul (n + 1) 1, Nat.one_mul, choose_ss n k, Nat.mul_add]
    omega
theorem choose_self : ∀ n : Nat, choose n n = 1
  | 0 => rfl
  | n + 1 => by rw [choose_ss, choose_self n, choose_gt n (n + 1) (by omega)]
/-- The sum of choose n k x^k over k below m. -/
def bsum (x n : Nat) : Nat → Nat
  | 0 => 0
  | m + 1 => bsum x n m + choose n m * x ^ m
theorem bsum_s (x n m : Nat) : bsum x (n + 1) (m + 1) = x * bsum x n m + bsum x n (m + 1) := by
  induction m with
  | zero => simp [bsum, choose_z]
  | succ m ih =>
    show bsum x (n + 1) (m + 1) + choose (n + 1) (m + 1) * x ^ (m + 1) = x * (bsum x n m + choose n m * x ^ m) + (bsum x n (m + 1) + choose n (m + 1) * x ^ (m + 1))
    rw [ih, choose_ss, Nat.add_mul, Nat.mul_add]
    have : x * (choose n m * x ^ m) = choose n m * x ^ (m + 1) := by rw [Nat.pow_succ, Nat.mul_left_comm, Nat.mul_comm x]
    rw [this]
    omega
theorem binom (x n : Nat) : (x + 1) ^ n = bsum x n (n + 1) := by
  induction n with
  | zero => simp [bsum, choose]
  | succ n ih =>
    rw [bsum_s]
    show _ = x * bsum x n (n + 1) + (bsum x n (n + 1) + choose n (n + 1) * x ^ (n + 1))
    rw [choose_gt n (n + 1) (by omega), Nat.zero_mul, Nat.add_zero, Nat.pow_succ, ih, Nat.mul_add, Nat.mul_one, Nat.mul_comm]; rfl

/-! Primes. -/
def IsPrime (p : Nat) : Prop := 2 ≤ p ∧ ∀ m, m ∣ p → m = 1 ∨ m = p
theorem IsPrime.coprime {p a : Nat} (h : IsPrime p) (ha : ¬ p ∣ a) : Nat.gcd p a = 1 := by
  rcases h.2 _ (Nat.gcd_dvd_left p a) with e | e
  · exact e
  · exact absurd (e ▸ Nat.gcd_dvd_right p a) ha
theorem IsPrime.euclid {p a b : Nat} (h : IsPrime p) (hd : p ∣ a * b) : p ∣ a ∨ p ∣ b := by
  by_cases ha : p ∣ a
  · exact .inl ha
  · exact .inr (Nat.Coprime.dvd_of_dvd_mul_left (h.coprime ha) hd)
theorem choose_dvd {p k : Nat} (h : IsPrime p) (h1 : 0 < k) (h2 : k < p) : p ∣ choose p k := by
  obtain ⟨p', rfl⟩ : ∃ p', p = p' + 1 := ⟨p - 1, by omega⟩
  obtain ⟨k', rfl⟩ : ∃ k', k = k' + 1 := ⟨k - 1, by omega⟩
  have hd : p' + 1 ∣ choose (p' + 1) (k' + 1) * (k' + 1) := ⟨_, (choose_mul p' k').symm⟩
  rcases h.euclid hd with hd | hd
  · exact hd
  · exact absurd (Nat.le_of_dvd (by omega) hd) (by omega)
theorem bsum_mod {p : Nat} (h : IsPrime p) (x m : Nat) (hm : m + 1 ≤ p) : bsum x p (m + 1) % p = 1 % p := by
  induction m with
  | zero => simp [bsum, choose_z]
  | succ m ih =>
    show (bsum x p (m + 1) + choose p (m + 1) * x ^ (m + 1)) % p = _
    obtain ⟨c, hc⟩ := choose_dvd h (show 0 < m + 1 by omega) (by omega)
    rw [hc, Nat.mul_assoc, Nat.add_mul_mod_self_left, ih (by omega)]
theorem fermat {p : Nat} (h : IsPrime p) (x : Nat) : x ^ p % p = x % p := by
  induction x with
  | zero => rw [Nat.zero_pow (by have := h.1; omega)]
  | succ x ih =>
    have e : bsum x p (p + 1) = bsum x p p + choose p p * x ^ p := rfl
    obtain ⟨q, hq⟩ : ∃ q, p = q + 1 := ⟨p - 1, by have := h.1; omega⟩
    have hb : bsum x p p % p = 1 % p := by
      have := bsum_mod h x q (by omega)
      rw [← hq] at this
      exact this
    rw [binom, e, choose_self, Nat.one_mul, Nat.add_mod, hb, ih, ← Nat.add_mod, Nat.add_comm]
theorem sub_dvd_of_mod {a b p : Nat} (h : a % p = b % p) (hab : b ≤ a) : p ∣ a - b := by
  have h1 := Nat.div_add_mod a p
  have h2 := Nat.div_add_mod b p
  rw [h] at h1
  have h3 : p * (b / p) ≤ p * (a / p) := by omega
  refine ⟨a / p - b / p, ?_⟩
  rw [Nat.mul_sub]
  omega
theorem fermat1 {p : Nat} (h : IsPrime p) (x : Nat) (hx : ¬ p ∣ x) : x ^ (p - 1) % p = 1 := by
  have h2 := h.1
  have hx0 : 0 < x := Nat.pos_of_ne_zero fun e => hx (e ▸ Nat.dvd_zero p)
  have hp : 0 < x ^ (p - 1) := Nat.pow_pos hx0
  have h3 := fermat h x
  have e : x ^ p = x * x ^ (p - 1) := by
    have : p = (p - 1) + 1 := by omega
    rw (occs := .pos [1]) [this]
    rw [Nat.pow_succ, Nat.mul_comm]
  have h4 : p ∣ x * (x ^ (p - 1) - 1) := by
    rw [Nat.mul_sub, Nat.mul_one, ← e]
    refine sub_dvd_of_mod h3 ?_
    rw [e]
    exact Nat.le_mul_of_pos_right _ hp
  rcases h.euclid h4 with h5 | h5
  · exact absurd h5 hx
  · obtain ⟨c, hc⟩ := h5
    have : x ^ (p - 1) = 1 + p * c := by omega
    rw [this, Nat.add_mul_mod_self_left]
    exact Nat.mod_eq_of_lt (by omega)

/-! Orders. -/
theorem pow_gcd {b r : Nat} (hr : 1 < r) : ∀ m n : Nat, b ^ m % r = 1 → b ^ n % r = 1 → b ^ (Nat.gcd m n) % r = 1 := by
  intro m n
  induction m, n using Nat.gcd.induction with
  | H0 n => intro _ h; simpa using h
  | H1 m n hm ih =>
    intro h1 h2
    rw [Nat.gcd_rec]
    refine ih ?_ h1
    have e : b ^ n = b ^ (m * (n / m)) * b ^ (n % m) := by rw [← Nat.pow_add, Nat.div_add_mod]
    rw [e, Nat.mul_mod, Nat.pow_mul, Nat.pow_mod (b ^ m), h1, Nat.one_pow, Nat.mod_eq_of_lt hr, Nat.one_mul, Nat.mod_mod] at h2
    exact h2

/-! The least divisor is a prime. -/
theorem prime_below (n : Nat) (h2 : 2 ≤ n) (hn : ¬ IsPrime n) : ∃ r, IsPrime r ∧ r ∣ n ∧ r * r ≤ n := by
  have hex : ∃ m, 2 ≤ m ∧ m ∣ n ∧ m < n := by
    apply Classical.byContradiction
    intro hc
    apply hn
    refine ⟨h2, fun m hm => ?_⟩
    have h0 : 0 < m := Nat.pos_of_dvd_of_pos hm (by omega)
    have h1 := Nat.le_of_dvd (by omega) hm
    apply Classical.byContradiction
    intro h3
    exact hc ⟨m, by omega, hm, by omega⟩
  -- the least such m
  have least : ∀ k m : Nat, m ≤ k → 2 ≤ m → m ∣ n → m < n → ∃ r, 2 ≤ r ∧ r ∣ n ∧ r < n ∧ ∀ s, 2 ≤ s → s < r → ¬ s ∣ n := by
    intro k
    induction k with
    | zero => intro m h1 h2; omega
    | succ k ih =>
      intro m hk hm hd hlt
      by_cases hs : ∃ s, 2 ≤ s ∧ s < m ∧ s ∣ n
      · obtain ⟨s, a, b, c⟩ := hs
        exact ih s (by omega) a c (by omega)
      · exact ⟨m, hm, hd, hlt, fun s a b c => hs ⟨s, a, b, c⟩⟩
  obtain ⟨m, a, b, c⟩ := hex
  obtain ⟨r, h3, hd, h4, h5⟩ := least m m (Nat.le_refl _) a b c
  refine ⟨r, ⟨h3, fun s hs => ?_⟩, hd, ?_⟩
  · have h0 : 0 < s := Nat.pos_of_dvd_of_pos hs (by omega)
    have h1 := Nat.le_of_dvd (by omega) hs
    apply Classical.byContradiction
    intro h6
    exact h5 s (by omega) (by omega) (Nat.dvd_trans hs hd)
  · obtain ⟨t, ht⟩ := hd
    have ht2 : 2 ≤ t := by
      rcases t with _ | _ | t
      · omega
      · omega
      · omega
    have : r ≤ t := by
      apply Classical.byContradiction
      intro h6
      exact h5 t ht2 (by omega) ⟨r, by rw [ht, Nat.mul_comm]⟩
    rw [ht]
    exact Nat.mul_le_mul_left r this

/-- Powers modulo n, in as many steps as the exponent has bits. -/
def powm (n : Nat) : Nat → Nat → Nat → Nat
  | 0, _, _ => 1 % n
  | f + 1, a, e => if e = 0 then 1 % n else if e % 2 = 1 then a * powm n f (a * a % n) (e / 2) % n else powm n f (a * a % n) (e / 2)
theorem powm_eq (n : Nat) : ∀ f a e : Nat, e < 2 ^ f → powm n f a e = a ^ e % n
  | 0, a, e, h => by
    obtain rfl : e = 0 := by simp at h; exact h
    rfl
  | f + 1, a, e, h => by
    have ih := powm_eq n f (a * a % n) (e / 2) (by rw [Nat.pow_succ] at h; omega)
    have e2 : (a * a) ^ (e / 2) = a ^ (2 * (e / 2)) := by rw [← Nat.pow_two, ← Nat.pow_mul]
    unfold powm
    split
    · rename_i h0; subst h0; rfl
    · split
      · rename_i _ h1
        rw [ih, ← Nat.pow_mod, e2, Nat.mul_mod, Nat.mod_mod, ← Nat.mul_mod]
        have : e = 2 * (e / 2) + 1 := by omega
        rw (occs := .pos [2]) [this]
        rw [Nat.pow_succ, Nat.mul_comm]
      · rename_i _ h1
        rw [ih, ← Nat.pow_mod, e2]
        have : e = 2 * (e / 2) := by omega
        rw [← this]

/-- What Pocklington's test asks of a prime q of n - 1. -/
def poc (n a q : Nat) : Bool := decide (n < 2 ^ 300) && decide (2 ≤ q) && decide ((n - 1) % q = 0) && decide (powm n 300 a (n - 1) = 1) && decide (Nat.gcd (powm n 300 a ((n - 1) / q) + n - 1) n = 1)
theorem poc_dvd {n a q r : Nat} (hn : 2 ≤ n) (h : poc n a q = true) (hq : IsPrime q) (hr : IsPrime r) (hd : r ∣ n) : q ∣ r - 1 := by
  simp only [poc, Bool.and_eq_true, decide_eq_true_eq] at h
  obtain ⟨⟨⟨⟨h1, h2⟩, h3⟩, h4⟩, h5⟩ := h
  have hr2 := hr.1
  have hlt : (n - 1) / q < 2 ^ 300 := Nat.lt_of_le_of_lt (Nat.div_le_self _ _) (by omega)
  rw [powm_eq n 300 a _ (by omega)] at h4
  rw [powm_eq n 300 a _ hlt] at h5
  obtain ⟨R, hR⟩ := Nat.dvd_of_mod_eq_zero h3
  have hdiv : (n - 1) / q = R := by rw [hR]; exact Nat.mul_div_cancel_left R (by omega)
  rw [hdiv] at h5
  have hmod : ∀ x : Nat, x % n % r = x % r := fun x => Nat.mod_mod_of_dvd x hd
  have hq1 : (a ^ R) ^ q % r = 1 := by
    rw [← Nat.pow_mul, Nat.mul_comm R q, ← hR, ← hmod, h4]
    exact Nat.mod_eq_of_lt (by omega)
  have hne : a ^ R % r ≠ 1 := by
    intro e
    have hdv : r ∣ a ^ R % n + n - 1 := by
      obtain ⟨c, hc⟩ := hd
      have e1 : a ^ R % n % r = 1 := by rw [hmod]; exact e
      have e2 := Nat.div_add_mod (a ^ R % n) r
      rw [e1] at e2
      refine ⟨a ^ R % n / r + c, ?_⟩
      rw [Nat.mul_add, ← hc]
      omega
    have := Nat.dvd_gcd hdv hd
    rw [h5] at this
    have := Nat.le_of_dvd (by omega) this
    omega
  have hnd : ¬ r ∣ a ^ R := by
    intro hc
    have : r ∣ (a ^ R) ^ q := Nat.dvd_trans hc (⟨(a ^ R) ^ (q - 1), by rw [← Nat.pow_succ']; congr 1; omega⟩)
    have := Nat.mod_eq_zero_of_dvd this
    omega
  have hf := fermat1 hr (a ^ R) hnd
  apply Classical.byContradiction
  intro hc
  have hg := pow_gcd (b := a ^ R) (r := r) (by omega) q (r - 1) hq1 hf
  rw [hq.coprime hc, Nat.pow_one] at hg
  exact hne hg
theorem poc1 {n a q : Nat} (hn : 2 ≤ n) (h : poc n a q = true) (hq : IsPrime q) (hb : n < q * q) : IsPrime n := by
  apply Classical.byContradiction
  intro hc
  obtain ⟨r, h1, h2, h3⟩ := prime_below n hn hc
  have hd := poc_dvd hn h hq h1 h2
  have := h1.1
  have hl := Nat.le_of_dvd (by omega) hd
  have := Nat.mul_le_mul (show q ≤ r by omega) (show q ≤ r by omega)
  omega
theorem poc2 {n a q s : Nat} (hn : 2 ≤ n) (h : poc n a q = true) (h' : poc n a s = true) (hq : IsPrime q) (hs : IsPrime s) (hqs : Nat.gcd q s = 1) (hb : n < (q * s) * (q * s)) : IsPrime n := by
  apply Classical.byContradiction
  intro hc
  obtain ⟨r, h1, h2, h3⟩ := prime_below n hn hc
  have hd := Nat.Coprime.mul_dvd_of_dvd_of_dvd hqs (poc_dvd hn h hq h1 h2) (poc_dvd hn h' hs h1 h2)
  have := h1.1
  have hl := Nat.le_of_dvd (by omega) hd
  have := Nat.mul_le_mul (show q * s ≤ r by omega) (show q * s ≤ r by omega)
  omega

/-! Small primes, by trial. -/
def noDiv (n : Nat) : Nat → Bool
  | 0 => true
  | k + 1 => (decide (k < 2) || decide (n % k ≠ 0)) && noDiv n k
theorem noDiv_ok {n : Nat} : ∀ k : Nat, noDiv n k = true → ∀ m, 2 ≤ m → m < k → ¬ m ∣ n
  | 0, _, m, _, h => absurd h (by omega)
  | k + 1, h, m, h2, hm => by
    simp only [noDiv, Bool.and_eq_true, Bool.or_eq_true, decide_eq_true_eq] at h
    by_cases e : m = k
    · subst e
      intro hd
      have := Nat.mod_eq_zero_of_dvd hd
      omega
    · exact noDiv_ok k h.2 m h2 (by omega)
theorem trial {n : Nat} (k : Nat) (h2 : 2 ≤ n) (h : noDiv n k = true) (hk : n < k * k) : IsPrime n := by
  apply Classical.byContradiction
  intro hc
  obtain ⟨r, h1, hd, h3⟩ := prime_below n h2 hc
  have : r < k := by
    apply Classical.byContradiction
    intro h4
    have := Nat.mul_le_mul (show k ≤ r by omega) (show k ≤ r by omega)
    omega
  exact noDiv_ok k h r h1.1 this hd

theorem pr127 : IsPrime 127 := trial 12 (by decide) (by decide +kernel) (by decide)
theorem pr75707 : IsPrime 75707 := trial 276 (by decide) (by decide +kernel) (by decide)
theorem pr1923133 : IsPrime 1923133 := trial 1387 (by decide) (by decide +kernel) (by decide)
theorem pr8574133 : IsPrime 8574133 := trial 2929 (by decide) (by decide +kernel) (by decide)
theorem prQ3 : IsPrime 1919519569386763 := poc2 (a := 2) (by decide) (by decide +kernel) (by decide +kernel) pr8574133 pr127 (by decide +kernel) (by decide +kernel)
theorem prQ2 : IsPrime 75445702479781427272750846543864801 := poc2 (a := 2) (by decide) (by decide +kernel) (by decide +kernel) prQ3 pr75707 (by decide +kernel) (by decide +kernel)
theorem prQ1 : IsPrime 74058212732561358302231226437062788676166966415465897661863160754340907 := poc2 (a := 2) (by decide) (by decide +kernel) (by decide +kernel) prQ2 pr1923133 (by decide +kernel) (by decide +kernel)
/-- 2^255 - 19, its digits written out. -/
theorem prP : IsPrime 57896044618658097711785492504343953926634992332820282019728792003956564819949 := poc1 (a := 2) (by decide) (by decide +kernel) prQ1 (by decide +kernel)
#print axioms prP
end Go.Proofs.YtnfckoamjeafhaaDoor
