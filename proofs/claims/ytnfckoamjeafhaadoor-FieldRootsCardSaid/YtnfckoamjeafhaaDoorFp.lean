/- Plain words on numbers modulo a prime p that is 5 modulo 8: powers, inverses, roots of fractions, who has a root. Only the text on primes is imported. -/
import Derived.Test.YtnfckoamjeafhaaDoorPrime
namespace Go.Proofs.YtnfckoamjeafhaaDoor
set_option linter.unusedVariables false
set_option linter.unusedSimpArgs false

theorem neg_even {n m : Nat} (ho : m % 2 = 1) (h : n % 2 = 1) (hl : n < m) : (m - n) % m % 2 = 0 := by
  have h1 : m - n < m := by clear ho; omega
  have h2 : (m - n) % 2 = 0 := by clear h1; omega
  rw [Nat.mod_eq_of_lt h1]
  exact h2
theorem not_odd_even {n : Nat} (h : ¬ n % 2 = 1) : n % 2 = 0 := by omega
/-- The even one of a number and its opposite. -/
def evenOf {p : Nat} (r : Fin p) : Fin p := if r.val % 2 = 1 then -r else r
theorem evenOf_even {p : Nat} (r : Fin p) (ho : p % 2 = 1) : (evenOf r).val % 2 = 0 := by
  unfold evenOf
  split
  · rename_i h
    rw [Fin.val_neg']
    exact neg_even ho h r.isLt
  · rename_i h
    exact not_odd_even h

section
variable {p : Nat} [NeZero p]
theorem fq_pow_zero (a : Fin p) : a ^ 0 = 1 := by grind
theorem fq_pow_succ (a : Fin p) (k : Nat) : a ^ (k + 1) = a ^ k * a := by grind
theorem fq_mul_comm (a b : Fin p) : a * b = b * a := by grind
theorem fq_mul_one (a : Fin p) : a * 1 = a := by grind
theorem fq_pow_add (a : Fin p) (m n : Nat) : a ^ (m + n) = a ^ m * a ^ n := by
  induction n with
  | zero => rw [Nat.add_zero, fq_pow_zero, fq_mul_one]
  | succ n ih => rw [← Nat.add_assoc, fq_pow_succ, fq_pow_succ, ih]; grind
theorem fq_one_pow (n : Nat) : (1 : Fin p) ^ n = 1 := by
  induction n with
  | zero => rw [fq_pow_zero]
  | succ n ih => rw [fq_pow_succ, ih, fq_mul_one]
theorem fq_mul_pow (a b : Fin p) (n : Nat) : (a * b) ^ n = a ^ n * b ^ n := by
  induction n with
  | zero => rw [fq_pow_zero, fq_pow_zero, fq_pow_zero, fq_mul_one]
  | succ n ih => rw [fq_pow_succ, fq_pow_succ, fq_pow_succ, ih]; grind
theorem fp_pow_val (a : Fin p) (k : Nat) : (a ^ k).val = a.val ^ k % p := by
  induction k with
  | zero => rw [Nat.pow_zero]; rfl
  | succ k ih =>
    rw [fq_pow_succ, Fin.val_mul, ih, Nat.pow_succ, Nat.mul_mod, Nat.mod_mod, ← Nat.mul_mod]
theorem fp_pow_mul (a : Fin p) (m n : Nat) : a ^ (m * n) = (a ^ m) ^ n := by
  induction n with
  | zero => rw [Nat.mul_zero, fq_pow_zero, fq_pow_zero]
  | succ n ih => rw [Nat.mul_succ, fq_pow_add, ih, fq_pow_succ]
theorem fp_zero_iff (a : Fin p) : a = 0 ↔ a.val = 0 := by
  rw [Fin.ext_iff]; rfl
theorem fp_nz {a b : Fin p} (hp : IsPrime p) (h : a * b = 0) : a = 0 ∨ b = 0 := by
  rw [fp_zero_iff, Fin.val_mul] at h
  rcases hp.euclid (Nat.dvd_of_mod_eq_zero h) with h | h
  · left; rw [fp_zero_iff]; exact Nat.eq_zero_of_dvd_of_lt h a.isLt
  · right; rw [fp_zero_iff]; exact Nat.eq_zero_of_dvd_of_lt h b.isLt
theorem fp_fermat {a : Fin p} (hp : IsPrime p) (h : a ≠ 0) : a ^ (p - 1) = 1 := by
  apply Fin.ext
  rw [fp_pow_val, fermat1 hp a.val fun hd => h ((fp_zero_iff a).2 (Nat.eq_zero_of_dvd_of_lt hd a.isLt))]
  exact (Nat.mod_eq_of_lt hp.1).symm
theorem fp_one_ne (hp : IsPrime p) : (1 : Fin p) ≠ 0 := by
  intro h
  have h2 : (1 % p) = 0 := by have := congrArg Fin.val h; exact this
  have := hp.1
  rw [Nat.mod_eq_of_lt (by omega)] at h2
  omega
theorem fp_inv {a : Fin p} (hp : IsPrime p) (h : a ≠ 0) : a * a ^ (p - 2) = 1 := by
  rw [← fp_fermat hp h]
  have : p - 1 = (p - 2) + 1 := by have := hp.1; omega
  rw [this, fq_pow_succ, fq_mul_comm]
theorem fp_zero_pow (k : Nat) (h : 0 < k) : (0 : Fin p) ^ k = 0 := by
  obtain ⟨j, rfl⟩ : ∃ j, k = j + 1 := ⟨k - 1, by omega⟩
  rw [fq_pow_succ]; grind
theorem fp_pow_ne {a : Fin p} (hp : IsPrime p) (h : a ≠ 0) (k : Nat) : a ^ k ≠ 0 := by
  induction k with
  | zero => rw [fq_pow_zero]; exact fp_one_ne hp
  | succ k ih =>
    rw [fq_pow_succ]
    intro e
    rcases fp_nz hp e with e | e
    · exact ih e
    · exact h e
theorem fp_cancel {a b c : Fin p} (hp : IsPrime p) (h : a ≠ 0) (e : a * b = a * c) : b = c := by
  have : a * (b - c) = 0 := by grind
  rcases fp_nz hp this with h' | h'
  · exact absurd h' h
  · grind

theorem evenOf_sq (r : Fin p) : evenOf r * evenOf r = r * r := by
  unfold evenOf
  split <;> grind

/-- What the program does for a root of u / v. -/
def rootC (e : Nat) (i u v : Fin p) : Fin p × Bool :=
  let r0 := u * (v * v * v) * (u * ((v * v * v) * (v * v * v) * v)) ^ e
  let r := if v * (r0 * r0) = -u then r0 * i else r0
  if v * (r * r) = u then (evenOf r, true) else (0, false)
/-- What the document's answers do. -/
def rootR (e : Nat) (i u v : Fin p) : Fin p × Bool :=
  if v = 0 then (0, decide (u = 0)) else
    let q := u * v ^ (p - 2)
    if q = 0 then (q, true) else if q ^ (4 * e + 2) = 1 then
      let x := q * q ^ e
      (evenOf (if x * x = q then x else x * i), true)
    else (0, false)

variable {e : Nat} {i : Fin p}
theorem half_sq {q : Fin p} (hp : IsPrime p) (he : p = 8 * e + 5) (h : q ≠ 0) : q ^ (4 * e + 2) = 1 ∨ q ^ (4 * e + 2) = -1 := by
  have h1 := fp_fermat hp h
  have h2 : q ^ (4 * e + 2) * q ^ (4 * e + 2) = 1 := by
    rw [← fq_pow_add, ← h1]
    congr 1
    omega
  have h3 : (q ^ (4 * e + 2) - 1) * (q ^ (4 * e + 2) + 1) = 0 := by grind
  rcases fp_nz hp h3 with h4 | h4
  · left; grind
  · right; grind
theorem half_split (q : Fin p) (e : Nat) : q ^ (4 * e + 2) = q ^ (2 * e + 1) * q ^ (2 * e + 1) := by
  rw [← fq_pow_add]; congr 1; omega
theorem two_ne (hp : IsPrime p) (he : p = 8 * e + 5) : (1 : Fin p) ≠ -1 := by
  intro h
  have h2 : (1 : Fin p) + 1 = 0 := by grind
  have h3 : (1 % p + 1 % p) % p = 0 := by have := congrArg Fin.val h2; exact this
  rw [Nat.mod_eq_of_lt (show 1 < p by clear h3 h2 h; omega), Nat.mod_eq_of_lt (by clear h3 h2 h; omega)] at h3
  clear h2 h
  omega
theorem neg_zero_iff (u : Fin p) : -u = 0 ↔ u = 0 := by constructor <;> intro h <;> grind

/-- All that is said of the program's root, with q = u / v: where v is not 0. -/
theorem rootC_eq {u v : Fin p} (hp : IsPrime p) (he : p = 8 * e + 5) (hi : i * i = -1) : rootC e i u v = rootR e i u v := by
  unfold rootR
  by_cases hv : v = 0
  · rw [if_pos hv]
    subst hv
    unfold rootC
    by_cases hu : u = 0
    · subst hu
      have e0 : (0 : Fin p) * (0 * 0 * 0) * (0 * (0 * 0 * 0 * (0 * 0 * 0) * 0)) ^ e = 0 := by grind
      simp only [e0]
      have e1 : (if (0 : Fin p) * (0 * 0) = -0 then (0 : Fin p) * i else 0) = 0 := by split <;> grind
      rw [e1]
      have e2 : (0 : Fin p) * (0 * 0) = 0 := by grind
      rw [if_pos e2]
      have e3 : evenOf (0 : Fin p) = 0 := by
        unfold evenOf
        rw [if_neg (by have : (0 : Fin p).val = 0 := rfl; omega)]
      simp [e3]
    · have e2 : ∀ r : Fin p, (0 : Fin p) * (r * r) = 0 := fun r => by grind
      simp only [e2]
      have hu' : ¬ (0 : Fin p) = u := fun h => hu h.symm
      rw [if_neg hu']
      simp [hu]
  · rw [if_neg hv]
    have hw := fp_inv hp hv
    generalize hwd : v ^ (p - 2) = w at hw
    simp only []
    generalize hq : u * w = q
    have hu : u = q * v := by rw [← hq]; grind
    -- the program's first root is q q^e
    have hv8 : v ^ (8 * e) * (v * v * (v * v)) = 1 := by
      have : v ^ (8 * e + 4) = 1 := by
        rw [← fp_fermat hp hv]; congr 1; omega
      rw [← this, fq_pow_add]; grind
    have hr0 : u * (v * v * v) * (u * ((v * v * v) * (v * v * v) * v)) ^ e = q * q ^ e := by
      have h1 : u * ((v * v * v) * (v * v * v) * v) = q * v ^ 8 := by rw [hu]; grind
      rw [h1, fq_mul_pow, ← fp_pow_mul, hu]
      generalize v ^ (8 * e) = z at *
      generalize q ^ e = y at *
      grind
    unfold rootC
    simp only [hr0]
    have hx2 : (q * q ^ e) * (q * q ^ e) = q * q ^ (2 * e + 1) := by
      have : q ^ (2 * e + 1) = q ^ e * q ^ e * q := by
        rw [fq_pow_succ, ← fq_pow_add]; congr 2; omega
      rw [this]; grind
    by_cases hq0 : q = 0
    · rw [if_pos hq0]
      subst hq0
      have hu0 : u = 0 := by rw [hu]; grind
      subst hu0
      have e0 : (0 : Fin p) * 0 ^ e = 0 := by grind
      rw [e0]
      have e1 : (if v * ((0 : Fin p) * 0) = -0 then (0 : Fin p) * i else 0) = 0 := by split <;> grind
      rw [e1]
      have e2 : v * ((0 : Fin p) * 0) = 0 := by grind
      rw [if_pos e2]
      have e3 : evenOf (0 : Fin p) = 0 := by
        unfold evenOf
        rw [if_neg (by have : (0 : Fin p).val = 0 := rfl; omega)]
      rw [e3]
    · rw [if_neg hq0]
      have hu0 : u ≠ 0 := by
        intro h
        rw [hu] at h
        rcases fp_nz hp h with h | h
        · exact hq0 h
        · exact hv h
      generalize hx : q * q ^ e = x at hx2
      have hs := half_split q e
      generalize ht : q ^ (2 * e + 1) = t at hx2 hs
      have hvr : v * (x * x) = u * t := by rw [hx2, hu]; grind
      have hvr2 : v * ((x * i) * (x * i)) = -(u * t) := by
        have : v * ((x * i) * (x * i)) = v * (x * x) * (i * i) := by grind
        rw [this, hvr, hi]; grind
      have m1 : u * t = -u ↔ t = -1 := by
        constructor
        · intro h; exact fp_cancel hp hu0 (by grind)
        · intro h; rw [h]; grind
      have p1 : u * t = u ↔ t = 1 := by
        constructor
        · intro h; exact fp_cancel hp hu0 (by grind)
        · intro h; rw [h]; grind
      have xq : x * x = q ↔ t = 1 := by
        rw [hx2]
        constructor
        · intro h; exact fp_cancel hp hq0 (by grind)
        · intro h; rw [h]; grind
      have hne := two_ne hp he
      by_cases h1 : t = 1
      · have hh : q ^ (4 * e + 2) = 1 := by rw [hs, h1]; grind
        rw [if_pos hh, if_pos (xq.2 h1)]
        have : ¬ v * (x * x) = -u := by rw [hvr, m1, h1]; exact hne
        simp only [if_neg this]
        have : v * (x * x) = u := by rw [hvr]; exact p1.2 h1
        rw [if_pos this]
      · by_cases h2 : t = -1
        · have hh : q ^ (4 * e + 2) = 1 := by rw [hs, h2]; grind
          rw [if_pos hh, if_neg (fun h => h1 (xq.1 h))]
          have : v * (x * x) = -u := by rw [hvr]; exact m1.2 h2
          simp only [if_pos this]
          have : v * ((x * i) * (x * i)) = u := by rw [hvr2, h2]; grind
          rw [if_pos this]
        · have hh : ¬ q ^ (4 * e + 2) = 1 := by
            rw [hs]
            intro h
            have : (t - 1) * (t + 1) = 0 := by grind
            rcases fp_nz hp this with h3 | h3
            · exact h1 (by grind)
            · exact h2 (by grind)
          rw [if_neg hh]
          have : ¬ v * (x * x) = -u := by rw [hvr]; exact fun h => h2 (m1.1 h)
          simp only [if_neg this]
          have : ¬ v * (x * x) = u := by rw [hvr]; exact fun h => h1 (p1.1 h)
          rw [if_neg this]

/-- What is said there is a root. -/
theorem rootC_spec {u v : Fin p} (h : (rootC e i u v).2 = true) : v * ((rootC e i u v).1 * (rootC e i u v).1) = u ∧ ∃ r, (rootC e i u v).1 = evenOf r := by
  unfold rootC at h ⊢
  dsimp only at h ⊢
  generalize (if v * (u * (v * v * v) * (u * (v * v * v * (v * v * v) * v)) ^ e * (u * (v * v * v) * (u * (v * v * v * (v * v * v) * v)) ^ e)) = -u then u * (v * v * v) * (u * (v * v * v * (v * v * v) * v)) ^ e * i else u * (v * v * v) * (u * (v * v * v * (v * v * v) * v)) ^ e) = r at h ⊢
  by_cases h1 : v * (r * r) = u
  · rw [if_pos h1]
    exact ⟨by show v * (evenOf r * evenOf r) = u; rw [evenOf_sq]; exact h1, r, rfl⟩
  · rw [if_neg h1] at h
    cases h
theorem rootC_no {u v : Fin p} (h : (rootC e i u v).2 = false) : (rootC e i u v).1 = 0 := by
  unfold rootC at h ⊢
  dsimp only at h ⊢
  generalize (if v * (u * (v * v * v) * (u * (v * v * v * (v * v * v) * v)) ^ e * (u * (v * v * v) * (u * (v * v * v * (v * v * v) * v)) ^ e)) = -u then u * (v * v * v) * (u * (v * v * v * (v * v * v) * v)) ^ e * i else u * (v * v * v) * (u * (v * v * v * (v * v * v) * v)) ^ e) = r at h ⊢
  by_cases h1 : v * (r * r) = u
  · rw [if_pos h1] at h
    cases h
  · rw [if_neg h1]
/-- Who has a root. -/
theorem rootR_has {u v : Fin p} (hv : v ≠ 0) : (rootR e i u v).2 = true ↔ (u * v ^ (p - 2) = 0 ∨ (u * v ^ (p - 2)) ^ (4 * e + 2) = 1) := by
  unfold rootR
  rw [if_neg hv]
  dsimp only
  by_cases h1 : u * v ^ (p - 2) = 0
  · rw [if_pos h1]; simp [h1]
  · rw [if_neg h1]
    by_cases h2 : (u * v ^ (p - 2)) ^ (4 * e + 2) = 1
    · rw [if_pos h2]; simp [h2]
    · rw [if_neg h2]; exact ⟨fun h => (by cases h), fun h => h.elim (fun h => absurd h h1) (fun h => absurd h h2)⟩
theorem rootC_square {a v : Fin p} (hp : IsPrime p) (he : p = 8 * e + 5) (hi : i * i = -1) : (rootC e i (a * a * v) v).2 = true := by
  rw [rootC_eq hp he hi]
  by_cases hv : v = 0
  · subst hv
    unfold rootR
    rw [if_pos rfl]
    simp only [decide_eq_true_eq]
    grind
  · rw [rootR_has hv]
    have hw := fp_inv hp hv
    have h1 : a * a * v * v ^ (p - 2) = a * a := by
      generalize v ^ (p - 2) = w at hw
      grind
    rw [h1]
    by_cases ha : a = 0
    · left; rw [ha]; grind
    · right
      rw [fq_mul_pow]
      have h2 := half_sq hp he ha
      rcases h2 with h2 | h2 <;> rw [h2] <;> grind
theorem rootC_one {x : Fin p} (hp : IsPrime p) (he : p = 8 * e + 5) (hi : i * i = -1) : (rootC e i x 1).2 = true ↔ (x = 0 ∨ x ^ (4 * e + 2) = 1) := by
  rw [rootC_eq hp he hi, rootR_has (fp_one_ne hp), fq_one_pow, fq_mul_one]
theorem neg_half (x : Fin p) (e : Nat) : (-x) ^ (4 * e + 2) = x ^ (4 * e + 2) := by
  have h : -x = (-1) * x := by grind
  have h2 : (4 * e + 2) = 2 * (2 * e + 1) := by omega
  rw [h, fq_mul_pow, h2, fp_pow_mul (-1)]
  have : ((-1 : Fin p)) ^ 2 = 1 := by grind
  rw [this, fq_one_pow]
  grind
/-- A number and its opposite: both have a root, or none. -/
theorem roots_neg {x : Fin p} (hp : IsPrime p) (he : p = 8 * e + 5) (hi : i * i = -1) : (rootC e i x 1).2 = (rootC e i (-x) 1).2 := by
  rw [Bool.eq_iff_iff, rootC_one hp he hi, rootC_one hp he hi, neg_half, neg_zero_iff]
/-- A product's. -/
theorem roots_mul {x y : Fin p} (hp : IsPrime p) (he : p = 8 * e + 5) (hi : i * i = -1) (h : (rootC e i x 1).2 = (rootC e i y 1).2) : (rootC e i (x * y) 1).2 = true := by
  rw [rootC_one hp he hi]
  by_cases hx : x = 0
  · left; rw [hx]; grind
  by_cases hy : y = 0
  · left; rw [hy]; grind
  right
  rw [fq_mul_pow]
  rw [Bool.eq_iff_iff, rootC_one hp he hi, rootC_one hp he hi] at h
  simp only [hx, hy, false_or] at h
  have hne := two_ne hp he
  rcases half_sq hp he hx with h1 | h1 <;> rcases half_sq hp he hy with h2 | h2
  · rw [h1, h2]; grind
  · rw [h1, h2] at h; exact absurd (h.1 rfl) (fun e => hne e.symm)
  · rw [h1, h2] at h; exact absurd (h.2 rfl) (fun e => hne e.symm)
  · rw [h1, h2]; grind
theorem roots_mul_no {x y : Fin p} (hp : IsPrime p) (he : p = 8 * e + 5) (hi : i * i = -1) (h : (rootC e i x 1).2 ≠ (rootC e i y 1).2) (h0 : x * y ≠ 0) : (rootC e i (x * y) 1).2 = false := by
  have hx : x ≠ 0 := fun e => h0 (by rw [e]; grind)
  have hy : y ≠ 0 := fun e => h0 (by rw [e]; grind)
  rw [← Bool.not_eq_true, rootC_one hp he hi]
  intro hc
  rcases hc with hc | hc
  · exact h0 hc
  apply h
  rw [fq_mul_pow] at hc
  rw [Bool.eq_iff_iff, rootC_one hp he hi, rootC_one hp he hi]
  simp only [hx, hy, false_or]
  have hne := two_ne hp he
  rcases half_sq hp he hx with h1 | h1 <;> rcases half_sq hp he hy with h2 | h2
  · rw [h1, h2]
  · rw [h1, h2] at hc; exact absurd (show (1 : Fin p) = -1 by grind) hne
  · rw [h1, h2] at hc; exact absurd (show (1 : Fin p) = -1 by grind) hne
  · rw [h1, h2]
/-! Inverses. -/
theorem inv_mul (x y : Fin p) (k : Nat) : (x * y) ^ k = x ^ k * y ^ k := fq_mul_pow x y k
theorem inv_inv {x : Fin p} (hp : IsPrime p) (h3 : 3 ≤ p) : (x ^ (p - 2)) ^ (p - 2) = x := by
  by_cases hx : x = 0
  · subst hx
    rw [fp_zero_pow _ (by omega), fp_zero_pow _ (by omega)]
  · have h1 := fp_inv hp hx
    have h2 := fp_inv hp (fp_pow_ne hp hx (p - 2))
    generalize (x ^ (p - 2)) ^ (p - 2) = z at *
    generalize x ^ (p - 2) = y at *
    grind
theorem neg_inv {x : Fin p} (he : p = 8 * e + 5) : (-x) ^ (p - 2) = -(x ^ (p - 2)) := by
  have h : -x = (-1) * x := by grind
  have h2 : (p - 2) = 2 * (4 * e + 1) + 1 := by omega
  have h4 : (-1 : Fin p) ^ (p - 2) = -1 := by
    rw [h2, fq_pow_succ, fp_pow_mul (-1)]
    have : ((-1 : Fin p)) ^ 2 = 1 := by grind
    rw [this, fq_one_pow]
    grind
  rw [h, fq_mul_pow, h4]
  grind
end

/-! The prime that is meant. -/
def PP : Nat := 57896044618658097711785492504343953926634992332820282019728792003956564819949
theorem PP_eq : PP = 57896044618658097711785492504343953926634992332820282019728792003956564819949 := rfl
instance : NeZero PP := ⟨by rw [PP_eq]; decide⟩
theorem PP_prime : IsPrime PP := prP
/-- (p - 5) / 8 -/
def EE : Nat := 7237005577332262213973186563042994240829374041602535252466099000494570602493
theorem PP_EE : PP = 8 * EE + 5 := by decide +kernel
/-- A root of -1. -/
def II : Fin PP := Fin.ofNat PP 19681161376707505956807079304988542015446066515923890162744021073123829784752
theorem II_sq : II * II = -1 := by decide +kernel
theorem II_eq : (2 : Fin PP) ^ (2 * EE + 1) = II := by
  apply Fin.ext
  rw [fp_pow_val, ← powm_eq PP 300 _ _ (by decide +kernel)]
  decide +kernel
end Go.Proofs.YtnfckoamjeafhaaDoor
