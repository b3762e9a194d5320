/- The group of an Edwards curve x^2 + y^2 = 1 + d x^2 y^2, d no square, over the numbers modulo a prime. Only the text on powers is imported. -/
import Derived.Test.YthlnnoajklmeiaaDoorFp
namespace Go.Proofs.YthlnnoajklmeiaaDoor
set_option linter.unusedVariables false
set_option linter.unusedSimpArgs false

section
variable {p : Nat} [NeZero p]
/-- An inverse. -/
def iv (a : Fin p) : Fin p := a ^ (p - 2)
/-- What is asked of a curve's number d. -/
structure EdOk (d : Fin p) : Prop where
  prime : IsPrime p
  nosq : ∀ z : Fin p, z * z ≠ d
  two : ∀ z : Fin p, z + z = 0 → z = 0
theorem iv_mul {a : Fin p} (hp : IsPrime p) (h : a ≠ 0) : a * iv a = 1 := fp_inv hp h
theorem iv_zero (h3 : 3 ≤ p) : iv (0 : Fin p) = 0 := fp_zero_pow _ (by omega)
theorem iv_prod (a b : Fin p) : iv (a * b) = iv a * iv b := fq_mul_pow a b _
theorem EdOk.p3 {d : Fin p} (hd : EdOk d) : 3 ≤ p := by
  have h1 := hd.prime.1
  apply Nat.le_of_not_lt
  intro h
  have h2 : (1 : Fin p) = 0 := hd.two 1 (by
    apply Fin.ext
    show (1 % p + 1 % p) % p = 0 % p
    have : p = 2 := by omega
    subst this
    rfl)
  exact fp_one_ne hd.prime h2
/-- A point. -/
def OnE (d : Fin p) (P : Fin p × Fin p) : Prop := P.1 * P.1 + P.2 * P.2 = 1 + d * (P.1 * P.1) * (P.2 * P.2)
/-- The sum of two points. -/
def eadd (d : Fin p) (P Q : Fin p × Fin p) : Fin p × Fin p :=
  ((P.1 * Q.2 + P.2 * Q.1) * iv (1 + d * P.1 * Q.1 * P.2 * Q.2), (P.2 * Q.2 - P.1 * Q.1) * iv (1 - d * P.1 * Q.1 * P.2 * Q.2))
def eneg (P : Fin p × Fin p) : Fin p × Fin p := (-P.1, P.2)
def enil : Fin p × Fin p := (0, 1)
theorem no_sq {d s r : Fin p} (hd : EdOk d) (hr : r ≠ 0) : s * s ≠ d * (r * r) := by
  intro h
  apply hd.nosq (s * iv r)
  have := iv_mul hd.prime hr
  generalize iv r = q at *
  grind
theorem whole1 {d x1 y1 x2 y2 z : Fin p} (hd : EdOk d) (h1 : x1 * x1 + y1 * y1 = 1 + d * (x1 * x1) * (y1 * y1)) (h2 : x2 * x2 + y2 * y2 = 1 + d * (x2 * x2) * (y2 * y2)) (hz : z * z = 1) : d * x1 * x2 * y1 * y2 ≠ z := by
  intro h
  have hone := fp_one_ne hd.prime
  have hz0 : z ≠ 0 := by intro e; subst e; exact hone (by grind)
  have hr : x1 * y1 ≠ 0 := by intro e; exact hz0 (by rw [← h]; grind)
  have a1 : (x1 + z * y1) * (x1 + z * y1) = d * ((x1 * y1 * (x2 + y2)) * (x1 * y1 * (x2 + y2))) := by grind
  have a2 : (x1 - z * y1) * (x1 - z * y1) = d * ((x1 * y1 * (x2 - y2)) * (x1 * y1 * (x2 - y2))) := by grind
  have b1 : x2 + y2 = 0 := by
    apply Classical.byContradiction
    intro hn
    refine no_sq hd (r := x1 * y1 * (x2 + y2)) ?_ a1
    intro e
    rcases fp_nz hd.prime e with e | e
    · exact hr e
    · exact hn e
  have b2 : x2 - y2 = 0 := by
    apply Classical.byContradiction
    intro hn
    refine no_sq hd (r := x1 * y1 * (x2 - y2)) ?_ a2
    intro e
    rcases fp_nz hd.prime e with e | e
    · exact hr e
    · exact hn e
  have b3 : x2 = 0 := hd.two x2 (by grind)
  exact hz0 (by rw [← h, b3]; grind)
/-- Nothing is ever divided by nought. -/
theorem whole {d : Fin p} {P Q : Fin p × Fin p} (hd : EdOk d) (hP : OnE d P) (hQ : OnE d Q) : 1 + d * P.1 * Q.1 * P.2 * Q.2 ≠ 0 ∧ 1 - d * P.1 * Q.1 * P.2 * Q.2 ≠ 0 := by
  constructor
  · intro h
    exact whole1 hd hP hQ (z := -1) (by grind) (by grind)
  · intro h
    exact whole1 hd hP hQ (z := 1) (by grind) (by grind)
/-- What the sum's numbers are, with nothing divided. -/
theorem eadd_eq {d : Fin p} {P Q : Fin p × Fin p} (hd : EdOk d) (hP : OnE d P) (hQ : OnE d Q) :
    (eadd d P Q).1 * (1 + d * P.1 * Q.1 * P.2 * Q.2) = P.1 * Q.2 + P.2 * Q.1 ∧ (eadd d P Q).2 * (1 - d * P.1 * Q.1 * P.2 * Q.2) = P.2 * Q.2 - P.1 * Q.1 := by
  obtain ⟨h1, h2⟩ := whole hd hP hQ
  have e1 := iv_mul hd.prime h1
  have e2 := iv_mul hd.prime h2
  unfold eadd
  dsimp only
  generalize iv (1 + d * P.1 * Q.1 * P.2 * Q.2) = i at *
  generalize iv (1 - d * P.1 * Q.1 * P.2 * Q.2) = j at *
  constructor <;> grind
theorem clos_ (d x1 y1 x2 y2 : Fin p) (h1 : x1 * x1 + y1 * y1 = 1 + d * (x1 * x1) * (y1 * y1)) (h2 : x2 * x2 + y2 * y2 = 1 + d * (x2 * x2) * (y2 * y2)) :
    (x1 * y2 + y1 * x2) * (x1 * y2 + y1 * x2) * ((1 - d * x1 * x2 * y1 * y2) * (1 - d * x1 * x2 * y1 * y2)) + (y1 * y2 - x1 * x2) * (y1 * y2 - x1 * x2) * ((1 + d * x1 * x2 * y1 * y2) * (1 + d * x1 * x2 * y1 * y2)) = (1 - d * x1 * x2 * y1 * y2) * (1 - d * x1 * x2 * y1 * y2) * ((1 + d * x1 * x2 * y1 * y2) * (1 + d * x1 * x2 * y1 * y2)) + d * ((x1 * y2 + y1 * x2) * (x1 * y2 + y1 * x2)) * ((y1 * y2 - x1 * x2) * (y1 * y2 - x1 * x2)) := by
  grind
theorem sq_cancel {a b c : Fin p} (hp : IsPrime p) (h : a ≠ 0) (e : a * b = a * c) : b = c := fp_cancel hp h e
theorem mul_ne {a b : Fin p} (hp : IsPrime p) (ha : a ≠ 0) (hb : b ≠ 0) : a * b ≠ 0 := by
  intro e
  rcases fp_nz hp e with e | e
  · exact ha e
  · exact hb e
theorem on_add {d : Fin p} {P Q : Fin p × Fin p} (hd : EdOk d) (hP : OnE d P) (hQ : OnE d Q) : OnE d (eadd d P Q) := by
  obtain ⟨h1, h2⟩ := whole hd hP hQ
  obtain ⟨e1, e2⟩ := eadd_eq hd hP hQ
  have hc := clos_ d P.1 P.2 Q.1 Q.2 hP hQ
  unfold OnE
  generalize (eadd d P Q).1 = x at *
  generalize (eadd d P Q).2 = y at *
  generalize 1 + d * P.1 * Q.1 * P.2 * Q.2 = s at *
  generalize 1 - d * P.1 * Q.1 * P.2 * Q.2 = t at *
  generalize P.1 * Q.2 + P.2 * Q.1 = A at *
  generalize P.2 * Q.2 - P.1 * Q.1 = B at *
  subst e1 e2
  refine fp_cancel hd.prime (mul_ne hd.prime (mul_ne hd.prime h2 h2) (mul_ne hd.prime h1 h1)) ?_
  grind
theorem eadd_comm (d : Fin p) (P Q : Fin p × Fin p) : eadd d P Q = eadd d Q P := by
  unfold eadd
  congr 1
  · congr 1
    · grind
    · congr 1; grind
  · congr 1
    · grind
    · congr 1; grind
theorem ascx (d x1 y1 x2 y2 x3 y3 A B D A' B' D' : Fin p) (h1 : x1 * x1 + y1 * y1 = 1 + d * (x1 * x1) * (y1 * y1)) (h2 : x2 * x2 + y2 * y2 = 1 + d * (x2 * x2) * (y2 * y2)) (h3 : x3 * x3 + y3 * y3 = 1 + d * (x3 * x3) * (y3 * y3))
    (hA : A = x1 * y2 + y1 * x2) (hB : B = y1 * y2 - x1 * x2) (hD : D = d * x1 * x2 * y1 * y2) (hA' : A' = x2 * y3 + y2 * x3) (hB' : B' = y2 * y3 - x2 * x3) (hD' : D' = d * x2 * x3 * y2 * y3) :
    (A * (1 - D) * y3 + B * (1 + D) * x3) * ((1 - D' * D') + d * A' * B' * x1 * y1) = (x1 * B' * (1 + D') + y1 * A' * (1 - D')) * ((1 - D * D) + d * A * B * x3 * y3) := by
  subst hA hB hD hA' hB' hD'
  grind
theorem ascy (d x1 y1 x2 y2 x3 y3 A B D A' B' D' : Fin p) (h1 : x1 * x1 + y1 * y1 = 1 + d * (x1 * x1) * (y1 * y1)) (h2 : x2 * x2 + y2 * y2 = 1 + d * (x2 * x2) * (y2 * y2)) (h3 : x3 * x3 + y3 * y3 = 1 + d * (x3 * x3) * (y3 * y3))
    (hA : A = x1 * y2 + y1 * x2) (hB : B = y1 * y2 - x1 * x2) (hD : D = d * x1 * x2 * y1 * y2) (hA' : A' = x2 * y3 + y2 * x3) (hB' : B' = y2 * y3 - x2 * x3) (hD' : D' = d * x2 * x3 * y2 * y3) :
    (B * (1 + D) * y3 - A * (1 - D) * x3) * ((1 - D' * D') - d * A' * B' * x1 * y1) = (y1 * B' * (1 + D') - x1 * A' * (1 - D')) * ((1 - D * D) - d * A * B * x3 * y3) := by
  subst hA hB hD hA' hB' hD'
  grind
theorem asc_x (x d u v D r s : Fin p) (h : x * (1 + d * u * r * v * s) = u * s + v * r) : x * ((1 - D * D) + d * (u * (1 + D)) * (v * (1 - D)) * r * s) = u * (1 + D) * (1 - D) * s + v * (1 - D) * (1 + D) * r := by
  have := congrArg (· * ((1 + D) * (1 - D))) h
  grind
theorem asc_y (x d u v D r s : Fin p) (h : x * (1 - d * u * r * v * s) = v * s - u * r) : x * ((1 - D * D) - d * (u * (1 + D)) * (v * (1 - D)) * r * s) = v * (1 - D) * (1 + D) * s - u * (1 + D) * (1 - D) * r := by
  have := congrArg (· * ((1 + D) * (1 - D))) h
  grind
theorem asc_x' (x d u v D r s : Fin p) (h : x * (1 + d * r * u * s * v) = r * v + s * u) : x * ((1 - D * D) + d * (u * (1 + D)) * (v * (1 - D)) * r * s) = r * (v * (1 - D)) * (1 + D) + s * (u * (1 + D)) * (1 - D) := by
  have := congrArg (· * ((1 + D) * (1 - D))) h
  grind
theorem asc_y' (x d u v D r s : Fin p) (h : x * (1 - d * r * u * s * v) = s * v - r * u) : x * ((1 - D * D) - d * (u * (1 + D)) * (v * (1 - D)) * r * s) = s * (v * (1 - D)) * (1 + D) - r * (u * (1 + D)) * (1 - D) := by
  have := congrArg (· * ((1 + D) * (1 - D))) h
  grind
theorem asc_n (d u v D r s : Fin p) : (1 - D * D) + d * (u * (1 + D)) * (v * (1 - D)) * r * s = (1 + D) * (1 - D) * (1 + d * u * r * v * s) ∧ (1 - D * D) - d * (u * (1 + D)) * (v * (1 - D)) * r * s = (1 + D) * (1 - D) * (1 - d * u * r * v * s) ∧ (1 - D * D) + d * (u * (1 + D)) * (v * (1 - D)) * r * s = (1 + D) * (1 - D) * (1 + d * r * u * s * v) ∧ (1 - D * D) - d * (u * (1 + D)) * (v * (1 - D)) * r * s = (1 + D) * (1 - D) * (1 - d * r * u * s * v) := by
  refine ⟨?_, ?_, ?_, ?_⟩ <;> grind
theorem eadd_assoc {d : Fin p} {P Q R : Fin p × Fin p} (hd : EdOk d) (hP : OnE d P) (hQ : OnE d Q) (hR : OnE d R) : eadd d (eadd d P Q) R = eadd d P (eadd d Q R) := by
  have hPQ := on_add hd hP hQ
  have hQR := on_add hd hQ hR
  obtain ⟨s1, t1⟩ := whole hd hP hQ
  obtain ⟨s2, t2⟩ := whole hd hQ hR
  obtain ⟨s3, t3⟩ := whole hd hPQ hR
  obtain ⟨s4, t4⟩ := whole hd hP hQR
  obtain ⟨a1, b1⟩ := eadd_eq hd hP hQ
  obtain ⟨a2, b2⟩ := eadd_eq hd hQ hR
  obtain ⟨a3, b3⟩ := eadd_eq hd hPQ hR
  obtain ⟨a4, b4⟩ := eadd_eq hd hP hQR
  have hx := ascx d P.1 P.2 Q.1 Q.2 R.1 R.2 _ _ _ _ _ _ hP hQ hR rfl rfl rfl rfl rfl rfl
  have hy := ascy d P.1 P.2 Q.1 Q.2 R.1 R.2 _ _ _ _ _ _ hP hQ hR rfl rfl rfl rfl rfl rfl
  have hp := hd.prime
  clear hPQ hQR hP hQ hR
  apply Prod.ext
  · clear b3 b4 hy t3 t4
    generalize (eadd d (eadd d P Q) R).1 = x at *
    generalize (eadd d P (eadd d Q R)).1 = x' at *
    generalize (eadd d P Q).1 = u at *
    generalize (eadd d P Q).2 = v at *
    generalize (eadd d Q R).1 = u' at *
    generalize (eadd d Q R).2 = v' at *
    generalize P.1 * Q.2 + P.2 * Q.1 = A at *
    generalize P.2 * Q.2 - P.1 * Q.1 = B at *
    generalize Q.1 * R.2 + Q.2 * R.1 = A' at *
    generalize Q.2 * R.2 - Q.1 * R.1 = B' at *
    generalize d * P.1 * Q.1 * P.2 * Q.2 = D at *
    generalize d * Q.1 * R.1 * Q.2 * R.2 = D' at *
    have e3 : x * ((1 - D * D) + d * A * B * R.1 * R.2) = A * (1 - D) * R.2 + B * (1 + D) * R.1 := by rw [← a1, ← b1]; exact asc_x x d u v D R.1 R.2 a3
    have e4 : x' * ((1 - D' * D') + d * A' * B' * P.1 * P.2) = P.1 * B' * (1 + D') + P.2 * A' * (1 - D') := by rw [← a2, ← b2]; exact asc_x' x' d u' v' D' P.1 P.2 a4
    have n3 : (1 - D * D) + d * A * B * R.1 * R.2 ≠ 0 := by
      have : (1 - D * D) + d * A * B * R.1 * R.2 = (1 + D) * (1 - D) * (1 + d * u * R.1 * v * R.2) := by rw [← a1, ← b1]; exact (asc_n d u v D R.1 R.2).1
      rw [this]
      exact mul_ne hp (mul_ne hp s1 t1) s3
    have n4 : (1 - D' * D') + d * A' * B' * P.1 * P.2 ≠ 0 := by
      have : (1 - D' * D') + d * A' * B' * P.1 * P.2 = (1 + D') * (1 - D') * (1 + d * P.1 * u' * P.2 * v') := by rw [← a2, ← b2]; exact (asc_n d u' v' D' P.1 P.2).2.2.1
      rw [this]
      exact mul_ne hp (mul_ne hp s2 t2) s4
    clear a1 a2 b1 b2 a3 a4 s1 s2 s3 s4 t1 t2
    generalize (1 - D * D) + d * A * B * R.1 * R.2 = E at *
    generalize (1 - D' * D') + d * A' * B' * P.1 * P.2 = E' at *
    rw [← e3, ← e4] at hx
    refine fp_cancel hp (mul_ne hp n3 n4) ?_
    clear e3 e4 n3 n4
    grind
  · clear a3 a4 hx s3 s4
    generalize (eadd d (eadd d P Q) R).2 = x at *
    generalize (eadd d P (eadd d Q R)).2 = x' at *
    generalize (eadd d P Q).1 = u at *
    generalize (eadd d P Q).2 = v at *
    generalize (eadd d Q R).1 = u' at *
    generalize (eadd d Q R).2 = v' at *
    generalize P.1 * Q.2 + P.2 * Q.1 = A at *
    generalize P.2 * Q.2 - P.1 * Q.1 = B at *
    generalize Q.1 * R.2 + Q.2 * R.1 = A' at *
    generalize Q.2 * R.2 - Q.1 * R.1 = B' at *
    generalize d * P.1 * Q.1 * P.2 * Q.2 = D at *
    generalize d * Q.1 * R.1 * Q.2 * R.2 = D' at *
    have e3 : x * ((1 - D * D) - d * A * B * R.1 * R.2) = B * (1 + D) * R.2 - A * (1 - D) * R.1 := by rw [← a1, ← b1]; exact asc_y x d u v D R.1 R.2 b3
    have e4 : x' * ((1 - D' * D') - d * A' * B' * P.1 * P.2) = P.2 * B' * (1 + D') - P.1 * A' * (1 - D') := by rw [← a2, ← b2]; exact asc_y' x' d u' v' D' P.1 P.2 b4
    have n3 : (1 - D * D) - d * A * B * R.1 * R.2 ≠ 0 := by
      have : (1 - D * D) - d * A * B * R.1 * R.2 = (1 + D) * (1 - D) * (1 - d * u * R.1 * v * R.2) := by rw [← a1, ← b1]; exact (asc_n d u v D R.1 R.2).2.1
      rw [this]
      exact mul_ne hp (mul_ne hp s1 t1) t3
    have n4 : (1 - D' * D') - d * A' * B' * P.1 * P.2 ≠ 0 := by
      have : (1 - D' * D') - d * A' * B' * P.1 * P.2 = (1 + D') * (1 - D') * (1 - d * P.1 * u' * P.2 * v') := by rw [← a2, ← b2]; exact (asc_n d u' v' D' P.1 P.2).2.2.2
      rw [this]
      exact mul_ne hp (mul_ne hp s2 t2) t4
    clear a1 a2 b1 b2 b3 b4 s1 s2 t3 t4 t1 t2
    generalize (1 - D * D) - d * A * B * R.1 * R.2 = E at *
    generalize (1 - D' * D') - d * A' * B' * P.1 * P.2 = E' at *
    rw [← e3, ← e4] at hy
    refine fp_cancel hp (mul_ne hp n3 n4) ?_
    clear e3 e4 n3 n4
    grind

theorem on_nil (d : Fin p) : OnE d enil := by unfold OnE enil; dsimp only; grind
theorem on_neg {d : Fin p} {P : Fin p × Fin p} (h : OnE d P) : OnE d (eneg P) := by unfold OnE eneg at *; dsimp only; grind
theorem iv_one : iv (1 : Fin p) = 1 := fq_one_pow _
theorem eadd_nil (d : Fin p) (P : Fin p × Fin p) : eadd d P enil = P := by
  unfold eadd enil
  dsimp only
  have e1 : 1 + d * P.1 * 0 * P.2 * 1 = 1 := by grind
  have e2 : 1 - d * P.1 * 0 * P.2 * 1 = 1 := by grind
  rw [e1, e2, iv_one]
  apply Prod.ext <;> dsimp only <;> grind
theorem nil_eadd (d : Fin p) (P : Fin p × Fin p) : eadd d enil P = P := by rw [eadd_comm, eadd_nil]
theorem eadd_neg {d : Fin p} {P : Fin p × Fin p} (hd : EdOk d) (hP : OnE d P) : eadd d P (eneg P) = enil := by
  obtain ⟨h1, h2⟩ := whole hd hP (on_neg hP)
  obtain ⟨a, b⟩ := eadd_eq hd hP (on_neg hP)
  unfold enil
  unfold OnE at hP
  apply Prod.ext
  · dsimp only
    refine fp_cancel hd.prime h1 ?_
    generalize (eadd d P (eneg P)).1 = x at *
    unfold eneg at *
    dsimp only at *
    clear b h1 h2
    grind
  · dsimp only
    refine fp_cancel hd.prime h2 ?_
    generalize (eadd d P (eneg P)).2 = x at *
    unfold eneg at *
    dsimp only at *
    clear a h1 h2
    grind

/-! So many times a point. -/
def emul (d : Fin p) (P : Fin p × Fin p) : Nat → Fin p × Fin p
  | 0 => enil
  | n + 1 => eadd d (emul d P n) P
theorem on_mul {d : Fin p} {P : Fin p × Fin p} (hd : EdOk d) (hP : OnE d P) : ∀ n, OnE d (emul d P n)
  | 0 => on_nil d
  | n + 1 => on_add hd (on_mul hd hP n) hP
theorem emul_add {d : Fin p} {P : Fin p × Fin p} (hd : EdOk d) (hP : OnE d P) (m : Nat) : ∀ n, emul d P (m + n) = eadd d (emul d P m) (emul d P n)
  | 0 => by rw [Nat.add_zero]; exact (eadd_nil d _).symm
  | n + 1 => by
    show eadd d (emul d P (m + n)) P = eadd d (emul d P m) (eadd d (emul d P n) P)
    rw [emul_add hd hP m n, eadd_assoc hd (on_mul hd hP m) (on_mul hd hP n) hP]
theorem emul_mul {d : Fin p} {P : Fin p × Fin p} (hd : EdOk d) (hP : OnE d P) (m : Nat) : ∀ n, emul d (emul d P m) n = emul d P (m * n)
  | 0 => by rw [Nat.mul_zero]; rfl
  | n + 1 => by
    show eadd d (emul d (emul d P m) n) (emul d P m) = _
    rw [emul_mul hd hP m n, Nat.mul_succ, emul_add hd hP]
theorem emul_one (d : Fin p) (P : Fin p × Fin p) : emul d P 1 = P := nil_eadd d P
end
end Go.Proofs.YthlnnoajklmeiaaDoor
