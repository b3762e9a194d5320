/- Words, contracts and walks (Ed, Ld, Lx, Et, Er, Eb, Ls, Dg, Rd, Co, Uw, Ca, Re, Mp, Rl, Rn, Mo, Ra, Rmu, Rpo, Rmi, Rc, Rg, Ru, Rz, Kt), laid together. No condition. -/
import Derived.Test.YtcijaoihcckofaaDoorZa
import Derived.Deep.MidRow
import Derived.Deep.RegionLaw
import Derived.Maps.AppendAt
import Derived.Laws.OwnMore
import Derived.Deep.DeepCutAuto
import Derived.Deep.CutBlock
namespace Go.Proofs.YtcijaoihcckofaaDoor
set_option linter.unusedVariables false
set_option linter.unusedSimpArgs false
section
variable {p : Nat} [NeZero p]
/-- An inverse. -/
def iv (a : Fin p) : Fin p := a ^ (p - 2)
/-- What is asked of a curve's number d. -/
structure EdOk (d : Fin p) : Prop where
  prime : IsPrime p
  nosq : ∀ z : Fin p, z * z ≠ d
  two : ∀ z : Fin p, z + z = 0 → z = 0
theorem iv_mul {a : Fin p} (hp : IsPrime p) (h : a ≠ 0) : a * iv a = 1 := fp_inv hp h
theorem EdOk.p3 {d : Fin p} (hd : EdOk d) : 3 ≤ p := by
  have h1 := hd.prime.1
  apply Nat.le_of_not_lt
  intro h
  have h2 : (1 : Fin p) = 0 := hd.two 1 (by
    apply Fin.ext
    show (1 % p + 1 % p) % p = 0 % p
    have : p = 2 := by omega
    subst this
    rfl)
  exact fp_one_ne hd.prime h2
/-- A point. -/
def OnE (d : Fin p) (P : Fin p × Fin p) : Prop := P.1 * P.1 + P.2 * P.2 = 1 + d * (P.1 * P.1) * (P.2 * P.2)
/-- The sum of two points. -/
def eadd (d : Fin p) (P Q : Fin p × Fin p) : Fin p × Fin p :=
  ((P.1 * Q.2 + P.2 * Q.1) * iv (1 + d * P.1 * Q.1 * P.2 * Q.2), (P.2 * Q.2 - P.1 * Q.1) * iv (1 - d * P.1 * Q.1 * P.2 * Q.2))
def eneg (P : Fin p × Fin p) : Fin p × Fin p := (-P.1, P.2)
def enil : Fin p × Fin p := (0, 1)
theorem no_sq {d s r : Fin p} (hd : EdOk d) (hr : r ≠ 0) : s * s ≠ d * (r * r) := by
  intro h
  apply hd.nosq (s * iv r)
  have := iv_mul hd.prime hr
  generalize iv r = q at *
  grind
theorem whole1 {d x1 y1 x2 y2 z : Fin p} (hd : EdOk d) (h1 : x1 * x1 + y1 * y1 = 1 + d * (x1 * x1) * (y1 * y1)) (h2 : x2 * x2 + y2 * y2 = 1 + d * (x2 * x2) * (y2 * y2)) (hz : z * z = 1) : d * x1 * x2 * y1 * y2 ≠ z := by
  intro h
  have hone := fp_one_ne hd.prime
  have hz0 : z ≠ 0 := by intro e; subst e; exact hone (by grind)
  have hr : x1 * y1 ≠ 0 := by intro e; exact hz0 (by rw [← h]; grind)
  have a1 : (x1 + z * y1) * (x1 + z * y1) = d * ((x1 * y1 * (x2 + y2)) * (x1 * y1 * (x2 + y2))) := by grind
  have a2 : (x1 - z * y1) * (x1 - z * y1) = d * ((x1 * y1 * (x2 - y2)) * (x1 * y1 * (x2 - y2))) := by grind
  have b1 : x2 + y2 = 0 := by
    apply Classical.byContradiction
    intro hn
    refine no_sq hd (r := x1 * y1 * (x2 + y2)) ?_ a1
    intro e
    rcases fp_nz hd.prime e with e | e
    · exact hr e
    · exact hn e
  have b2 : x2 - y2 = 0 := by
    apply Classical.byContradiction
    intro hn
    refine no_sq hd (r := x1 * y1 * (x2 - y2)) ?_ a2
    intro e
    rcases fp_nz hd.prime e with e | e
    · exact hr e
    · exact hn e
  have b3 : x2 = 0 := hd.two x2 (by grind)
  exact hz0 (by rw [← h, b3]; grind)
/-- Nothing is ever divided by nought. -/
theorem whole {d : Fin p} {P Q : Fin p × Fin p} (hd : EdOk d) (hP : OnE d P) (hQ : OnE d Q) : 1 + d * P.1 * Q.1 * P.2 * Q.2 ≠ 0 ∧ 1 - d * P.1 * Q.1 * P.2 * Q.2 ≠ 0 := by
  constructor
  · intro h
    exact whole1 hd hP hQ (z := -1) (by grind) (by grind)
  · intro h
    exact whole1 hd hP hQ (z := 1) (by grind) (by grind)
/-- What the sum's numbers are, with nothing divided. -/
theorem eadd_eq {d : Fin p} {P Q : Fin p × Fin p} (hd : EdOk d) (hP : OnE d P) (hQ : OnE d Q) :
    (eadd d P Q).1 * (1 + d * P.1 * Q.1 * P.2 * Q.2) = P.1 * Q.2 + P.2 * Q.1 ∧ (eadd d P Q).2 * (1 - d * P.1 * Q.1 * P.2 * Q.2) = P.2 * Q.2 - P.1 * Q.1 := by
  obtain ⟨h1, h2⟩ := whole hd hP hQ
  have e1 := iv_mul hd.prime h1
  have e2 := iv_mul hd.prime h2
  unfold eadd
  dsimp only
  generalize iv (1 + d * P.1 * Q.1 * P.2 * Q.2) = i at *
  generalize iv (1 - d * P.1 * Q.1 * P.2 * Q.2) = j at *
  constructor <;> grind
theorem clos_ (d x1 y1 x2 y2 : Fin p) (h1 : x1 * x1 + y1 * y1 = 1 + d * (x1 * x1) * (y1 * y1)) (h2 : x2 * x2 + y2 * y2 = 1 + d * (x2 * x2) * (y2 * y2)) :
    (x1 * y2 + y1 * x2) * (x1 * y2 + y1 * x2) * ((1 - d * x1 * x2 * y1 * y2) * (1 - d * x1 * x2 * y1 * y2)) + (y1 * y2 - x1 * x2) * (y1 * y2 - x1 * x2) * ((1 + d * x1 * x2 * y1 * y2) * (1 + d * x1 * x2 * y1 * y2)) = (1 - d * x1 * x2 * y1 * y2) * (1 - d * x1 * x2 * y1 * y2) * ((1 + d * x1 * x2 * y1 * y2) * (1 + d * x1 * x2 * y1 * y2)) + d * ((x1 * y2 + y1 * x2) * (x1 * y2 + y1 * x2)) * ((y1 * y2 - x1 * x2) * (y1 * y2 - x1 * x2)) := by
  grind
theorem mul_ne {a b : Fin p} (hp : IsPrime p) (ha : a ≠ 0) (hb : b ≠ 0) : a * b ≠ 0 := by
  intro e
  rcases fp_nz hp e with e | e
  · exact ha e
  · exact hb e
theorem on_add {d : Fin p} {P Q : Fin p × Fin p} (hd : EdOk d) (hP : OnE d P) (hQ : OnE d Q) : OnE d (eadd d P Q) := by
  obtain ⟨h1, h2⟩ := whole hd hP hQ
  obtain ⟨e1, e2⟩ := eadd_eq hd hP hQ
  have hc := clos_ d P.1 P.2 Q.1 Q.2 hP hQ
  unfold OnE
  generalize (eadd d P Q).1 = x at *
  generalize (eadd d P Q).2 = y at *
  generalize 1 + d * P.1 * Q.1 * P.2 * Q.2 = s at *
  generalize 1 - d * P.1 * Q.1 * P.2 * Q.2 = t at *
  generalize P.1 * Q.2 + P.2 * Q.1 = A at *
  generalize P.2 * Q.2 - P.1 * Q.1 = B at *
  subst e1 e2
  refine fp_cancel hd.prime (mul_ne hd.prime (mul_ne hd.prime h2 h2) (mul_ne hd.prime h1 h1)) ?_
  grind
theorem eadd_comm (d : Fin p) (P Q : Fin p × Fin p) : eadd d P Q = eadd d Q P := by
  unfold eadd
  congr 1
  · congr 1
    · grind
    · congr 1; grind
  · congr 1
    · grind
    · congr 1; grind
theorem ascx (d x1 y1 x2 y2 x3 y3 A B D A' B' D' : Fin p) (h1 : x1 * x1 + y1 * y1 = 1 + d * (x1 * x1) * (y1 * y1)) (h2 : x2 * x2 + y2 * y2 = 1 + d * (x2 * x2) * (y2 * y2)) (h3 : x3 * x3 + y3 * y3 = 1 + d * (x3 * x3) * (y3 * y3))
    (hA : A = x1 * y2 + y1 * x2) (hB : B = y1 * y2 - x1 * x2) (hD : D = d * x1 * x2 * y1 * y2) (hA' : A' = x2 * y3 + y2 * x3) (hB' : B' = y2 * y3 - x2 * x3) (hD' : D' = d * x2 * x3 * y2 * y3) :
    (A * (1 - D) * y3 + B * (1 + D) * x3) * ((1 - D' * D') + d * A' * B' * x1 * y1) = (x1 * B' * (1 + D') + y1 * A' * (1 - D')) * ((1 - D * D) + d * A * B * x3 * y3) := by
  subst hA hB hD hA' hB' hD'
  grind
theorem ascy (d x1 y1 x2 y2 x3 y3 A B D A' B' D' : Fin p) (h1 : x1 * x1 + y1 * y1 = 1 + d * (x1 * x1) * (y1 * y1)) (h2 : x2 * x2 + y2 * y2 = 1 + d * (x2 * x2) * (y2 * y2)) (h3 : x3 * x3 + y3 * y3 = 1 + d * (x3 * x3) * (y3 * y3))
    (hA : A = x1 * y2 + y1 * x2) (hB : B = y1 * y2 - x1 * x2) (hD : D = d * x1 * x2 * y1 * y2) (hA' : A' = x2 * y3 + y2 * x3) (hB' : B' = y2 * y3 - x2 * x3) (hD' : D' = d * x2 * x3 * y2 * y3) :
    (B * (1 + D) * y3 - A * (1 - D) * x3) * ((1 - D' * D') - d * A' * B' * x1 * y1) = (y1 * B' * (1 + D') - x1 * A' * (1 - D')) * ((1 - D * D) - d * A * B * x3 * y3) := by
  subst hA hB hD hA' hB' hD'
  grind
theorem asc_x (x d u v D r s : Fin p) (h : x * (1 + d * u * r * v * s) = u * s + v * r) : x * ((1 - D * D) + d * (u * (1 + D)) * (v * (1 - D)) * r * s) = u * (1 + D) * (1 - D) * s + v * (1 - D) * (1 + D) * r := by
  have := congrArg (· * ((1 + D) * (1 - D))) h
  grind
theorem asc_y (x d u v D r s : Fin p) (h : x * (1 - d * u * r * v * s) = v * s - u * r) : x * ((1 - D * D) - d * (u * (1 + D)) * (v * (1 - D)) * r * s) = v * (1 - D) * (1 + D) * s - u * (1 + D) * (1 - D) * r := by
  have := congrArg (· * ((1 + D) * (1 - D))) h
  grind
theorem asc_x' (x d u v D r s : Fin p) (h : x * (1 + d * r * u * s * v) = r * v + s * u) : x * ((1 - D * D) + d * (u * (1 + D)) * (v * (1 - D)) * r * s) = r * (v * (1 - D)) * (1 + D) + s * (u * (1 + D)) * (1 - D) := by
  have := congrArg (· * ((1 + D) * (1 - D))) h
  grind
theorem asc_y' (x d u v D r s : Fin p) (h : x * (1 - d * r * u * s * v) = s * v - r * u) : x * ((1 - D * D) - d * (u * (1 + D)) * (v * (1 - D)) * r * s) = s * (v * (1 - D)) * (1 + D) - r * (u * (1 + D)) * (1 - D) := by
  have := congrArg (· * ((1 + D) * (1 - D))) h
  grind
theorem asc_n (d u v D r s : Fin p) : (1 - D * D) + d * (u * (1 + D)) * (v * (1 - D)) * r * s = (1 + D) * (1 - D) * (1 + d * u * r * v * s) ∧ (1 - D * D) - d * (u * (1 + D)) * (v * (1 - D)) * r * s = (1 + D) * (1 - D) * (1 - d * u * r * v * s) ∧ (1 - D * D) + d * (u * (1 + D)) * (v * (1 - D)) * r * s = (1 + D) * (1 - D) * (1 + d * r * u * s * v) ∧ (1 - D * D) - d * (u * (1 + D)) * (v * (1 - D)) * r * s = (1 + D) * (1 - D) * (1 - d * r * u * s * v) := by
  refine ⟨?_, ?_, ?_, ?_⟩ <;> grind
theorem eadd_assoc {d : Fin p} {P Q R : Fin p × Fin p} (hd : EdOk d) (hP : OnE d P) (hQ : OnE d Q) (hR : OnE d R) : eadd d (eadd d P Q) R = eadd d P (eadd d Q R) := by
  have hPQ := on_add hd hP hQ
  have hQR := on_add hd hQ hR
  obtain ⟨s1, t1⟩ := whole hd hP hQ
  obtain ⟨s2, t2⟩ := whole hd hQ hR
  obtain ⟨s3, t3⟩ := whole hd hPQ hR
  obtain ⟨s4, t4⟩ := whole hd hP hQR
  obtain ⟨a1, b1⟩ := eadd_eq hd hP hQ
  obtain ⟨a2, b2⟩ := eadd_eq hd hQ hR
  obtain ⟨a3, b3⟩ := eadd_eq hd hPQ hR
  obtain ⟨a4, b4⟩ := eadd_eq hd hP hQR
  have hx := ascx d P.1 P.2 Q.1 Q.2 R.1 R.2 _ _ _ _ _ _ hP hQ hR rfl rfl rfl rfl rfl rfl
  have hy := ascy d P.1 P.2 Q.1 Q.2 R.1 R.2 _ _ _ _ _ _ hP hQ hR rfl rfl rfl rfl rfl rfl
  have hp := hd.prime
  clear hPQ hQR hP hQ hR
  apply Prod.ext
  · clear b3 b4 hy t3 t4
    generalize (eadd d (eadd d P Q) R).1 = x at *
    generalize (eadd d P (eadd d Q R)).1 = x' at *
    generalize (eadd d P Q).1 = u at *
    generalize (eadd d P Q).2 = v at *
    generalize (eadd d Q R).1 = u' at *
    generalize (eadd d Q R).2 = v' at *
    generalize P.1 * Q.2 + P.2 * Q.1 = A at *
    generalize P.2 * Q.2 - P.1 * Q.1 = B at *
    generalize Q.1 * R.2 + Q.2 * R.1 = A' at *
    generalize Q.2 * R.2 - Q.1 * R.1 = B' at *
    generalize d * P.1 * Q.1 * P.2 * Q.2 = D at *
    generalize d * Q.1 * R.1 * Q.2 * R.2 = D' at *
    have e3 : x * ((1 - D * D) + d * A * B * R.1 * R.2) = A * (1 - D) * R.2 + B * (1 + D) * R.1 := by rw [← a1, ← b1]; exact asc_x x d u v D R.1 R.2 a3
    have e4 : x' * ((1 - D' * D') + d * A' * B' * P.1 * P.2) = P.1 * B' * (1 + D') + P.2 * A' * (1 - D') := by rw [← a2, ← b2]; exact asc_x' x' d u' v' D' P.1 P.2 a4
    have n3 : (1 - D * D) + d * A * B * R.1 * R.2 ≠ 0 := by
      have : (1 - D * D) + d * A * B * R.1 * R.2 = (1 + D) * (1 - D) * (1 + d * u * R.1 * v * R.2) := by rw [← a1, ← b1]; exact (asc_n d u v D R.1 R.2).1
      rw [this]
      exact mul_ne hp (mul_ne hp s1 t1) s3
    have n4 : (1 - D' * D') + d * A' * B' * P.1 * P.2 ≠ 0 := by
      have : (1 - D' * D') + d * A' * B' * P.1 * P.2 = (1 + D') * (1 - D') * (1 + d * P.1 * u' * P.2 * v') := by rw [← a2, ← b2]; exact (asc_n d u' v' D' P.1 P.2).2.2.1
      rw [this]
      exact mul_ne hp (mul_ne hp s2 t2) s4
    clear a1 a2 b1 b2 a3 a4 s1 s2 s3 s4 t1 t2
    generalize (1 - D * D) + d * A * B * R.1 * R.2 = E at *
    generalize (1 - D' * D') + d * A' * B' * P.1 * P.2 = E' at *
    rw [← e3, ← e4] at hx
    refine fp_cancel hp (mul_ne hp n3 n4) ?_
    clear e3 e4 n3 n4
    grind
  · clear a3 a4 hx s3 s4
    generalize (eadd d (eadd d P Q) R).2 = x at *
    generalize (eadd d P (eadd d Q R)).2 = x' at *
    generalize (eadd d P Q).1 = u at *
    generalize (eadd d P Q).2 = v at *
    generalize (eadd d Q R).1 = u' at *
    generalize (eadd d Q R).2 = v' at *
    generalize P.1 * Q.2 + P.2 * Q.1 = A at *
    generalize P.2 * Q.2 - P.1 * Q.1 = B at *
    generalize Q.1 * R.2 + Q.2 * R.1 = A' at *
    generalize Q.2 * R.2 - Q.1 * R.1 = B' at *
    generalize d * P.1 * Q.1 * P.2 * Q.2 = D at *
    generalize d * Q.1 * R.1 * Q.2 * R.2 = D' at *
    have e3 : x * ((1 - D * D) - d * A * B * R.1 * R.2) = B * (1 + D) * R.2 - A * (1 - D) * R.1 := by rw [← a1, ← b1]; exact asc_y x d u v D R.1 R.2 b3
    have e4 : x' * ((1 - D' * D') - d * A' * B' * P.1 * P.2) = P.2 * B' * (1 + D') - P.1 * A' * (1 - D') := by rw [← a2, ← b2]; exact asc_y' x' d u' v' D' P.1 P.2 b4
    have n3 : (1 - D * D) - d * A * B * R.1 * R.2 ≠ 0 := by
      have : (1 - D * D) - d * A * B * R.1 * R.2 = (1 + D) * (1 - D) * (1 - d * u * R.1 * v * R.2) := by rw [← a1, ← b1]; exact (asc_n d u v D R.1 R.2).2.1
      rw [this]
      exact mul_ne hp (mul_ne hp s1 t1) t3
    have n4 : (1 - D' * D') - d * A' * B' * P.1 * P.2 ≠ 0 := by
      have : (1 - D' * D') - d * A' * B' * P.1 * P.2 = (1 + D') * (1 - D') * (1 - d * P.1 * u' * P.2 * v') := by rw [← a2, ← b2]; exact (asc_n d u' v' D' P.1 P.2).2.2.2
      rw [this]
      exact mul_ne hp (mul_ne hp s2 t2) t4
    clear a1 a2 b1 b2 b3 b4 s1 s2 t3 t4 t1 t2
    generalize (1 - D * D) - d * A * B * R.1 * R.2 = E at *
    generalize (1 - D' * D') - d * A' * B' * P.1 * P.2 = E' at *
    rw [← e3, ← e4] at hy
    refine fp_cancel hp (mul_ne hp n3 n4) ?_
    clear e3 e4 n3 n4
    grind
theorem on_nil (d : Fin p) : OnE d enil := by unfold OnE enil; dsimp only; grind
theorem on_neg {d : Fin p} {P : Fin p × Fin p} (h : OnE d P) : OnE d (eneg P) := by unfold OnE eneg at *; dsimp only; grind
theorem iv_one : iv (1 : Fin p) = 1 := fq_one_pow _
theorem eadd_nil (d : Fin p) (P : Fin p × Fin p) : eadd d P enil = P := by
  unfold eadd enil
  dsimp only
  have e1 : 1 + d * P.1 * 0 * P.2 * 1 = 1 := by grind
  have e2 : 1 - d * P.1 * 0 * P.2 * 1 = 1 := by grind
  rw [e1, e2, iv_one]
  apply Prod.ext <;> dsimp only <;> grind
theorem nil_eadd (d : Fin p) (P : Fin p × Fin p) : eadd d enil P = P := by rw [eadd_comm, eadd_nil]
theorem eadd_neg {d : Fin p} {P : Fin p × Fin p} (hd : EdOk d) (hP : OnE d P) : eadd d P (eneg P) = enil := by
  obtain ⟨h1, h2⟩ := whole hd hP (on_neg hP)
  obtain ⟨a, b⟩ := eadd_eq hd hP (on_neg hP)
  unfold enil
  unfold OnE at hP
  apply Prod.ext
  · dsimp only
    refine fp_cancel hd.prime h1 ?_
    generalize (eadd d P (eneg P)).1 = x at *
    unfold eneg at *
    dsimp only at *
    clear b h1 h2
    grind
  · dsimp only
    refine fp_cancel hd.prime h2 ?_
    generalize (eadd d P (eneg P)).2 = x at *
    unfold eneg at *
    dsimp only at *
    clear a h1 h2
    grind
def emul (d : Fin p) (P : Fin p × Fin p) : Nat → Fin p × Fin p
  | 0 => enil
  | n + 1 => eadd d (emul d P n) P
theorem on_mul {d : Fin p} {P : Fin p × Fin p} (hd : EdOk d) (hP : OnE d P) : ∀ n, OnE d (emul d P n)
  | 0 => on_nil d
  | n + 1 => on_add hd (on_mul hd hP n) hP
theorem emul_add {d : Fin p} {P : Fin p × Fin p} (hd : EdOk d) (hP : OnE d P) (m : Nat) : ∀ n, emul d P (m + n) = eadd d (emul d P m) (emul d P n)
  | 0 => by rw [Nat.add_zero]; exact (eadd_nil d _).symm
  | n + 1 => by
    show eadd d (emul d P (m + n)) P = eadd d (emul d P m) (eadd d (emul d P n) P)
    rw [emul_add hd hP m n, eadd_assoc hd (on_mul hd hP m) (on_mul hd hP n) hP]
theorem emul_mul {d : Fin p} {P : Fin p × Fin p} (hd : EdOk d) (hP : OnE d P) (m : Nat) : ∀ n, emul d (emul d P m) n = emul d P (m * n)
  | 0 => by rw [Nat.mul_zero]; rfl
  | n + 1 => by
    show eadd d (emul d (emul d P m) n) (emul d P m) = _
    rw [emul_mul hd hP m n, Nat.mul_succ, emul_add hd hP]
end
end Go.Proofs.YtcijaoihcckofaaDoor
namespace Go.Proofs.YtcijaoihcckofaaDoor
set_option linter.unusedVariables false
set_option linter.unusedSimpArgs false
/-- A ladder's state. -/
structure L4 (p : Nat) where
  a : Fin p
  b : Fin p
  c : Fin p
  d : Fin p
section
variable {p : Nat} [NeZero p]
def addN (a b c d : Fin p) : Fin p := (c - d) * (a + b)
def lbit (k i : Nat) : Bool := decide (k / 2 ^ i % 2 = 1)
structure LdOk (d g q k : Fin p) : Prop where
  ed : EdOk d
  sig : (g = 1 ∧ k = q + 1 ∧ k * d = q) ∨ (g = -1 ∧ k = -q ∧ k * d = -(q + 1))
theorem LdOk.kd {d g q k : Fin p} (h : LdOk d g q k) : k * (1 - d) = 1 := by rcases h.sig with h | h <;> grind
theorem ld_two {d : Fin p} (hd : EdOk d) : (2 : Fin p) ≠ 0 := by
  intro h
  exact fp_one_ne hd.prime (hd.two 1 (by grind))
theorem one_sub_ne {d y : Fin p} (hd : EdOk d) : 1 - d * (y * y) ≠ 0 := by
  intro h
  by_cases hy : y = 0
  · subst hy
    exact fp_one_ne hd.prime (by grind)
  · exact no_sq hd (s := 1) hy (by grind)
end
end Go.Proofs.YtcijaoihcckofaaDoor
namespace Go.Proofs.YtcijaoihcckofaaDoor
set_option linter.unusedVariables false
set_option linter.unusedSimpArgs false
section
variable {p : Nat} [NeZero p]
theorem two_cancel {i z : Fin p} (h : (1 + 1) * i = 1) (hz : z + z = 0) : z = 0 := by
  have : i * (z + z) = 0 := by rw [hz]; grind
  grind
theorem no_root {e : Nat} {d : Fin p} (hp : IsPrime p) (he : p = 8 * e + 5) (hd : d ^ (4 * e + 2) = -1) (z : Fin p) : z * z ≠ d := by
  intro h
  have hne := two_ne hp he
  by_cases hz : z = 0
  · subst hz
    have h1 : d = 0 := by rw [← h]; grind
    rw [h1, fp_zero_pow _ (by omega)] at hd
    exact fp_one_ne hp (by grind)
  · have h2 : (z * z) ^ (4 * e + 2) = 1 := by
      rw [fq_mul_pow]
      rcases half_sq hp he hz with h | h <;> rw [h] <;> grind
    rw [h, hd] at h2
    exact hne h2.symm
/-- The curve and its twist. -/
structure LdAll (d d' q : Fin p) : Prop where
  l1 : LdOk d 1 q (q + 1)
  l2 : LdOk d' (-1) q (-q)
  inv : d * d' = 1
  root : ∀ w : Fin p, (∃ r : Fin p, r * r = w) ∨ ∃ r : Fin p, r * r = d * w
end
/-- The curve's number, and its twist's. -/
def D1 : Fin PP := Fin.ofNat PP 20800338683988658368647408995589388737092878452977063003340006470870624536394
def Q0 : Fin PP := Fin.ofNat PP 121665
theorem D1_Q : (Q0 + 1) * D1 = Q0 := by decide +kernel
theorem D1_half : D1 ^ (4 * EE + 2) = -1 := by
  apply Fin.ext
  rw [fp_pow_val, ← powm_eq PP 300 _ _ (by decide +kernel)]
  decide +kernel
theorem two_PP : ∀ z : Fin PP, z + z = 0 → z = 0 := fun z h => two_cancel (i := Fin.ofNat PP 28948022309329048855892746252171976963317496166410141009864396001978282409975) (by decide +kernel) h
theorem D1_nosq : ∀ z : Fin PP, z * z ≠ D1 := no_root PP_prime PP_EE D1_half
theorem ed1 : EdOk D1 := ⟨PP_prime, D1_nosq, two_PP⟩
end Go.Proofs.YtcijaoihcckofaaDoor
namespace Go.Proofs.YtcijaoihcckofaaDoor
set_option linter.unusedVariables false
set_option linter.unusedSimpArgs false
section
variable {p : Nat} [NeZero p]
theorem tw_on {i d x y : Fin p} (hi : i * i = -1) (h : y * y - x * x = 1 + -d * (x * x) * (y * y)) : OnE d (i * x, y) := by
  unfold OnE
  dsimp only
  grind
theorem tw_off {i d X Y : Fin p} (hi : i * i = -1) (h : OnE d (X, Y)) : Y * Y - (-i * X) * (-i * X) = 1 + -d * ((-i * X) * (-i * X)) * (Y * Y) := by
  unfold OnE at h
  dsimp only at h
  grind
theorem tw_up {i X : Fin p} (hi : i * i = -1) : i * (-i * X) = X := by grind
theorem tw_inj {i x y : Fin p} (hi : i * i = -1) (h : i * x = i * y) : x = y := by
  have : -i * (i * x) = -i * (i * y) := by rw [h]
  grind
theorem tw_den {i d x z y w : Fin p} (hi : i * i = -1) : 1 + d * (i * x) * (i * z) * y * w = 1 + -d * x * z * y * w ∧ 1 - d * (i * x) * (i * z) * y * w = 1 - -d * x * z * y * w := by
  constructor <;> grind
theorem tw_addx {i X s x y z w : Fin p} (hi : i * i = -1) (h : X * s = i * x * w + y * (i * z)) : -i * X * s = x * w + y * z := by grind
theorem tw_addy {i Y s x y z w : Fin p} (hi : i * i = -1) (h : Y * s = y * w - i * x * (i * z)) : Y * s = y * w + x * z := by grind
theorem tw_neg {d x y : Fin p} (h : y * y - x * x = 1 + d * (x * x) * (y * y)) : y * y - -x * -x = 1 + d * (-x * -x) * (y * y) := by grind
theorem tw_nil {d : Fin p} : (1 : Fin p) * 1 - 0 * 0 = 1 + d * (0 * 0) * (1 * 1) := by grind
theorem mul_nil (i : Fin p) : i * 0 = 0 := by grind
theorem mul_neg' (i x : Fin p) : i * -x = -(i * x) := by grind
end
/-- The curve's d. -/
def TD : Fin PP := -D1
/-- A point. -/
structure Pt where
  x : Fin PP
  y : Fin PP
  on : y * y - x * x = 1 + TD * (x * x) * (y * y)
deriving DecidableEq
namespace Pt
theorem ext' {P Q : Pt} (hx : P.x = Q.x) (hy : P.y = Q.y) : P = Q := by
  cases P
  cases Q
  dsimp only at hx hy
  subst hx hy
  rfl
/-- The point of the other curve. -/
def up (P : Pt) : Fin PP × Fin PP := (II * P.x, P.y)
theorem up_on (P : Pt) : OnE D1 P.up := tw_on II_sq P.on
def of (R : Fin PP × Fin PP) (h : OnE D1 R) : Pt := ⟨-II * R.1, R.2, tw_off II_sq h⟩
theorem up_of (R : Fin PP × Fin PP) (h : OnE D1 R) : (of R h).up = R := by
  unfold up of
  dsimp only
  rw [tw_up II_sq]
theorem up_inj {P Q : Pt} (h : P.up = Q.up) : P = Q := by
  unfold up at h
  injection h with h1 h2
  exact ext' (tw_inj II_sq h1) h2
def add (P Q : Pt) : Pt := of (eadd D1 P.up Q.up) (on_add ed1 P.up_on Q.up_on)
theorem up_add (P Q : Pt) : (P.add Q).up = eadd D1 P.up Q.up := up_of _ _
def nil : Pt := ⟨0, 1, tw_nil⟩
theorem up_nil : nil.up = enil := by
  unfold up nil enil
  dsimp only
  rw [mul_nil]
def neg (P : Pt) : Pt := ⟨-P.x, P.y, tw_neg P.on⟩
theorem up_neg (P : Pt) : P.neg.up = eneg P.up := by
  unfold up neg eneg
  dsimp only
  rw [mul_neg']
def mul (P : Pt) : Nat → Pt
  | 0 => nil
  | n + 1 => (mul P n).add P
theorem up_mul (P : Pt) : ∀ n, (P.mul n).up = emul D1 P.up n
  | 0 => up_nil
  | n + 1 => by
    show ((P.mul n).add P).up = eadd D1 (emul D1 P.up n) P.up
    rw [up_add, up_mul P n]
theorem add_comm (P Q : Pt) : P.add Q = Q.add P := up_inj (by rw [up_add, up_add, eadd_comm])
theorem add_assoc (P Q R : Pt) : (P.add Q).add R = P.add (Q.add R) := up_inj (by rw [up_add, up_add, up_add, up_add, eadd_assoc ed1 P.up_on Q.up_on R.up_on])
theorem nil_add (P : Pt) : nil.add P = P := up_inj (by rw [up_add, up_nil, nil_eadd])
theorem add_nil (P : Pt) : P.add nil = P := by rw [add_comm, nil_add]
theorem add_neg (P : Pt) : P.add P.neg = nil := up_inj (by rw [up_add, up_neg, up_nil, eadd_neg ed1 P.up_on])
theorem mul_zero (P : Pt) : P.mul 0 = nil := rfl
theorem mul_succ (P : Pt) (n : Nat) : P.mul (n + 1) = (P.mul n).add P := rfl
theorem mul_one (P : Pt) : P.mul 1 = P := nil_add P
theorem mul_add (P : Pt) (m n : Nat) : P.mul (m + n) = (P.mul m).add (P.mul n) := up_inj (by rw [up_add, up_mul, up_mul, up_mul, emul_add ed1 P.up_on])
theorem mul_mul (P : Pt) (m n : Nat) : (P.mul m).mul n = P.mul (m * n) := up_inj (by rw [up_mul, up_mul, up_mul, emul_mul ed1 P.up_on])
theorem mul_two (P : Pt) (n : Nat) : P.mul (2 * n) = (P.mul n).add (P.mul n) := by rw [Nat.two_mul, mul_add]
theorem nil_mul : ∀ n, nil.mul n = nil
  | 0 => rfl
  | n + 1 => by rw [mul_succ, nil_mul n, nil_add]
theorem add_mul (P Q : Pt) : ∀ n, (P.add Q).mul n = (P.mul n).add (Q.mul n)
  | 0 => (nil_add nil).symm
  | n + 1 => by
    rw [mul_succ, mul_succ, mul_succ, add_mul P Q n, add_assoc, add_assoc, ← add_assoc (Q.mul n), add_comm (Q.mul n), add_assoc P]
/-- What comes to nought so often: multiples of it don't count. -/
theorem mul_mod {P : Pt} {l : Nat} (h : P.mul l = nil) (n : Nat) : P.mul (n % l) = P.mul n := by
  have e : P.mul n = P.mul (l * (n / l) + n % l) := by rw [Nat.div_add_mod]
  rw [e, mul_add, ← mul_mul, h, nil_mul, nil_add]
/-- Nothing is divided by nought. -/
theorem den (P Q : Pt) : 1 + TD * P.x * Q.x * P.y * Q.y ≠ 0 ∧ 1 - TD * P.x * Q.x * P.y * Q.y ≠ 0 := by
  have h := whole ed1 P.up_on Q.up_on
  unfold up at h
  dsimp only at h
  rw [(tw_den II_sq).1, (tw_den II_sq).2] at h
  exact h
theorem add_x (P Q : Pt) : (P.add Q).x * (1 + TD * P.x * Q.x * P.y * Q.y) = P.x * Q.y + P.y * Q.x := by
  have h := (eadd_eq ed1 P.up_on Q.up_on).1
  have e : (P.add Q).x = -II * (eadd D1 P.up Q.up).1 := rfl
  rw [e]
  generalize (eadd D1 P.up Q.up).1 = X at *
  unfold up at h
  dsimp only at h
  rw [(tw_den II_sq).1] at h
  exact tw_addx II_sq h
theorem add_y (P Q : Pt) : (P.add Q).y * (1 - TD * P.x * Q.x * P.y * Q.y) = P.y * Q.y + P.x * Q.x := by
  have h := (eadd_eq ed1 P.up_on Q.up_on).2
  have e : (P.add Q).y = (eadd D1 P.up Q.up).2 := rfl
  rw [e]
  generalize (eadd D1 P.up Q.up).2 = Y at *
  unfold up at h
  dsimp only at h
  rw [(tw_den II_sq).2] at h
  exact tw_addy II_sq h
end Pt
/-- Two with the same y are the same, or opposites. -/
theorem pt_same_y {p : Nat} [NeZero p] {d x z y : Fin p} (hp : IsPrime p) (hk : 1 + d * (y * y) ≠ 0) (h : y * y - x * x = 1 + d * (x * x) * (y * y)) (h' : y * y - z * z = 1 + d * (z * z) * (y * y)) : x = z ∨ x = -z := by
  have e : (1 + d * (y * y)) * ((x - z) * (x + z)) = 0 := by grind
  rcases fp_nz hp e with e | e
  · exact absurd e hk
  · rcases fp_nz hp e with e | e
    · left; grind
    · right; grind
/-- -d is no square, nor is 1 + d y^2 ever 0. -/
theorem TD_no (y : Fin PP) : 1 + TD * (y * y) ≠ 0 := by
  have h := one_sub_ne (y := y) ed1
  have e : 1 + TD * (y * y) = 1 - D1 * (y * y) := by
    unfold TD
    have gen : ∀ {p : Nat} [NeZero p] (d z : Fin p), 1 + -d * z = 1 - d * z := by intro p _ d z; grind
    exact gen _ _
  rw [e]
  exact h
end Go.Proofs.YtcijaoihcckofaaDoor
namespace Go.Proofs.YtcijaoihcckofaaDoor
set_option linter.unusedVariables false
set_option linter.unusedSimpArgs false
section
variable {p : Nat} [NeZero p]
theorem eq_of_mul {a b c : Fin p} (hp : IsPrime p) (h : c ≠ 0) (e : a * c = b * c) : a = b := fp_cancel hp h (by rw [fq_mul_comm c a, fq_mul_comm c b, e])
/-- The sum of two that are kept as three numbers. -/
theorem rep3_add {d x y z w a b X Y : Fin p} (h1 : X * (1 + d * x * z * y * w) = x * w + y * z) (h2 : Y * (1 - d * x * z * y * w) = y * w + x * z) :
    ((x * a) * (w * b) + (z * b) * (y * a)) * (a * b) * ((a * b) * (a * b) - d * ((x * a) * (w * b) * ((z * b) * (y * a)))) = X * (((a * b) * (a * b) + d * ((x * a) * (w * b) * ((z * b) * (y * a)))) * ((a * b) * (a * b) - d * ((x * a) * (w * b) * ((z * b) * (y * a))))) ∧
    ((y * a) * (w * b) + (x * a) * (z * b)) * (a * b) * ((a * b) * (a * b) + d * ((x * a) * (w * b) * ((z * b) * (y * a)))) = Y * (((a * b) * (a * b) + d * ((x * a) * (w * b) * ((z * b) * (y * a)))) * ((a * b) * (a * b) - d * ((x * a) * (w * b) * ((z * b) * (y * a))))) ∧
    (a * b) * (a * b) + d * ((x * a) * (w * b) * ((z * b) * (y * a))) = (a * b) * (a * b) * (1 + d * x * z * y * w) ∧
    (a * b) * (a * b) - d * ((x * a) * (w * b) * ((z * b) * (y * a))) = (a * b) * (a * b) * (1 - d * x * z * y * w) := by
  have e1 : (a * b) * (a * b) + d * ((x * a) * (w * b) * ((z * b) * (y * a))) = (a * b) * (a * b) * (1 + d * x * z * y * w) := by clear h1 h2; grind
  have e2 : (a * b) * (a * b) - d * ((x * a) * (w * b) * ((z * b) * (y * a))) = (a * b) * (a * b) * (1 - d * x * z * y * w) := by clear h1 h2 e1; grind
  refine ⟨?_, ?_, e1, e2⟩
  · rw [e1, e2]
    clear e1 e2 h2
    generalize 1 + d * x * z * y * w = S at *
    generalize 1 - d * x * z * y * w = T at *
    have : (x * a) * (w * b) + (z * b) * (y * a) = (x * w + y * z) * (a * b) := by clear h1; grind
    rw [this, ← h1]
    clear this h1
    grind
  · rw [e1, e2]
    clear e1 e2 h1
    generalize 1 + d * x * z * y * w = S at *
    generalize 1 - d * x * z * y * w = T at *
    have : (y * a) * (w * b) + (x * a) * (z * b) = (y * w + x * z) * (a * b) := by clear h2; grind
    rw [this, ← h2]
    clear this h2
    grind
/-- The sum of two that are kept as four numbers. -/
theorem rep4_add {d x y z w a b X Y l m : Fin p} (h1 : X * (1 + d * x * z * y * w) = x * w + y * z) (h2 : Y * (1 - d * x * z * y * w) = y * w + x * z)
    (hl : l = (y * a - x * a) * (w * b - z * b)) (hm : m = (y * a + x * a) * (w * b + z * b)) :
    m - l = 2 * (a * b) * (X * (1 + d * x * z * y * w)) ∧ m + l = 2 * (a * b) * (Y * (1 - d * x * z * y * w)) ∧
    a * b + x * y * a * (z * w * b) * d + (a * b + x * y * a * (z * w * b) * d) = 2 * (a * b) * (1 + d * x * z * y * w) ∧
    a * b - x * y * a * (z * w * b) * d + (a * b - x * y * a * (z * w * b) * d) = 2 * (a * b) * (1 - d * x * z * y * w) := by
  rw [h1, h2]
  clear h1 h2
  subst hl hm
  refine ⟨?_, ?_, ?_, ?_⟩ <;> grind
theorem rep4_out {X Y S T k : Fin p} : k * (X * S) * (k * T) = X * (k * S * (k * T)) ∧ k * (Y * T) * (k * S) = Y * (k * S * (k * T)) ∧ k * (X * S) * (k * (Y * T)) = X * Y * (k * S * (k * T)) := by
  refine ⟨?_, ?_, ?_⟩ <;> grind
theorem neg_scale (x y a : Fin p) : -(x * a) = -x * a ∧ -(x * y * a) = -x * y * a := by constructor <;> grind
theorem neg_zero' : -(0 : Fin p) = 0 := by grind
theorem scale_inv {x a i : Fin p} (h : a * i = 1) : x * a * i = x := by grind
theorem cross {x a z b : Fin p} (hp : IsPrime p) (ha : a ≠ 0) (hb : b ≠ 0) : x * a * b = z * b * a ↔ x = z := by
  constructor
  · intro h
    refine eq_of_mul hp (mul_ne hp ha hb) ?_
    grind
  · intro h
    subst h
    grind
theorem one_scale (x y : Fin p) : x = x * 1 ∧ y = y * 1 ∧ x * y = x * y * 1 := by refine ⟨?_, ?_, ?_⟩ <;> grind
theorem nil_scale : (0 : Fin p) = 0 * 1 ∧ (1 : Fin p) = 1 * 1 ∧ (0 : Fin p) * 1 = 0 * 1 * 1 := by refine ⟨?_, ?_, ?_⟩ <;> grind
end
/-- The document's. -/
structure Pj3 where
  X : Fin PP
  Y : Fin PP
  Z : Fin PP
def RepR (P : Pt) (r : Pj3) : Prop := r.Z ≠ 0 ∧ r.X = P.x * r.Z ∧ r.Y = P.y * r.Z
def rpAdd (p q : Pj3) : Pj3 :=
  ⟨(p.X * q.Y + q.X * p.Y) * (p.Z * q.Z) * (p.Z * q.Z * (p.Z * q.Z) - TD * (p.X * q.Y * (q.X * p.Y))), (p.Y * q.Y + p.X * q.X) * (p.Z * q.Z) * (p.Z * q.Z * (p.Z * q.Z) + TD * (p.X * q.Y * (q.X * p.Y))),
    (p.Z * q.Z * (p.Z * q.Z) + TD * (p.X * q.Y * (q.X * p.Y))) * (p.Z * q.Z * (p.Z * q.Z) - TD * (p.X * q.Y * (q.X * p.Y)))⟩
def rpNeg (p : Pj3) : Pj3 := ⟨-p.X, p.Y, p.Z⟩
def rpNil : Pj3 := ⟨0, 1, 1⟩
theorem RepR.add {P Q : Pt} {p q : Pj3} (hP : RepR P p) (hQ : RepR Q q) : RepR (P.add Q) (rpAdd p q) := by
  obtain ⟨a0, hx, hy⟩ := hP
  obtain ⟨b0, hz, hw⟩ := hQ
  obtain ⟨d1, d2⟩ := P.den Q
  have h1 := P.add_x Q
  have h2 := P.add_y Q
  unfold RepR rpAdd
  dsimp only
  rw [hx, hy, hz, hw]
  obtain ⟨e1, e2, e3, e4⟩ := rep3_add (a := p.Z) (b := q.Z) h1 h2
  refine ⟨?_, e1, e2⟩
  rw [e3, e4]
  have ab := mul_ne PP_prime a0 b0
  exact mul_ne PP_prime (mul_ne PP_prime (mul_ne PP_prime ab ab) d1) (mul_ne PP_prime (mul_ne PP_prime ab ab) d2)
theorem RepR.neg {P : Pt} {p : Pj3} (hP : RepR P p) : RepR P.neg (rpNeg p) := by
  obtain ⟨a0, hx, hy⟩ := hP
  exact ⟨a0, by show -p.X = -P.x * p.Z; rw [hx]; exact (neg_scale _ 0 _).1, hy⟩
theorem RepR.nil : RepR Pt.nil rpNil := ⟨fp_one_ne PP_prime, nil_scale.1, nil_scale.2.1⟩
theorem RepR.flat {P : Pt} {p : Pj3} (h : RepR P p) : p.X * p.Z ^ (PP - 2) = P.x ∧ p.Y * p.Z ^ (PP - 2) = P.y := by
  obtain ⟨a0, hx, hy⟩ := h
  have hi : p.Z * p.Z ^ (PP - 2) = 1 := fp_inv PP_prime a0
  rw [hx, hy]
  exact ⟨scale_inv hi, scale_inv hi⟩
theorem RepR.same {P Q : Pt} {p q : Pj3} (hP : RepR P p) (hQ : RepR Q q) : (p.X * q.Z = q.X * p.Z ∧ p.Y * q.Z = q.Y * p.Z) ↔ P = Q := by
  obtain ⟨a0, hx, hy⟩ := hP
  obtain ⟨b0, hz, hw⟩ := hQ
  rw [hx, hy, hz, hw, cross PP_prime a0 b0, cross PP_prime a0 b0]
  constructor
  · rintro ⟨h1, h2⟩
    exact Pt.ext' h1 h2
  · rintro rfl
    exact ⟨rfl, rfl⟩
theorem RepR.of (P : Pt) : RepR P ⟨P.x, P.y, 1⟩ := ⟨fp_one_ne PP_prime, (one_scale _ 0).1, (one_scale _ 0).1⟩
/-- The program's: x, y, z and t stand as a, b, c and d. -/
def RepE (P : Pt) (s : L4 PP) : Prop := s.c ≠ 0 ∧ s.a = P.x * s.c ∧ s.b = P.y * s.c ∧ s.d = P.x * P.y * s.c
/-- A zero z stands for nought. -/
def ptSet (s : L4 PP) : L4 PP := if s.c = 0 then ⟨0, 1, 1, 0 * 1⟩ else s
def RepS (P : Pt) (s : L4 PP) : Prop := RepE P (ptSet s)
def paL (s t : L4 PP) : Fin PP := (s.b - s.a) * (t.b - t.a)
def paH (s t : L4 PP) : Fin PP := (s.b + s.a) * (t.b + t.a)
def paU (s t : L4 PP) : Fin PP := s.c * t.c + s.d * t.d * TD + (s.c * t.c + s.d * t.d * TD)
def paV (s t : L4 PP) : Fin PP := s.c * t.c - s.d * t.d * TD + (s.c * t.c - s.d * t.d * TD)
def ptAdd0 (s t : L4 PP) : L4 PP := ⟨(paH s t - paL s t) * paV s t, (paH s t + paL s t) * paU s t, paU s t * paV s t, (paH s t - paL s t) * (paH s t + paL s t)⟩
def ptAdd (s t : L4 PP) : L4 PP := ptAdd0 (ptSet s) (ptSet t)
def ptNeg (s : L4 PP) : L4 PP := ⟨-s.a, s.b, s.c, -s.d⟩
theorem ptSet_id {s : L4 PP} (h : s.c ≠ 0) : ptSet s = s := by unfold ptSet; rw [if_neg h]
theorem ptSet_zero {s : L4 PP} (h : s.c = 0) : ptSet s = ⟨0, 1, 1, 0 * 1⟩ := by unfold ptSet; rw [if_pos h]
theorem RepE.set {P : Pt} {s : L4 PP} (h : RepE P s) : RepS P s := by
  unfold RepS
  rw [ptSet_id h.1]
  exact h
theorem two_ne0 : (2 : Fin PP) ≠ 0 := ld_two ed1
theorem RepE.padd0 {P Q : Pt} {s t : L4 PP} (hP : RepE P s) (hQ : RepE Q t) : RepE (P.add Q) (ptAdd0 s t) := by
  obtain ⟨a0, hx, hy, hxy⟩ := hP
  obtain ⟨b0, hz, hw, hzw⟩ := hQ
  obtain ⟨d1, d2⟩ := P.den Q
  have h1 := P.add_x Q
  have h2 := P.add_y Q
  obtain ⟨e1, e2, e3, e4⟩ := rep4_add (a := s.c) (b := t.c) (l := paL s t) (m := paH s t) h1 h2 (by unfold paL; rw [hx, hy, hz, hw]) (by unfold paH; rw [hx, hy, hz, hw])
  have e3' : paU s t = 2 * (s.c * t.c) * (1 + TD * P.x * Q.x * P.y * Q.y) := by unfold paU; rw [hxy, hzw]; exact e3
  have e4' : paV s t = 2 * (s.c * t.c) * (1 - TD * P.x * Q.x * P.y * Q.y) := by unfold paV; rw [hxy, hzw]; exact e4
  have k0 : (2 : Fin PP) * (s.c * t.c) ≠ 0 := mul_ne PP_prime two_ne0 (mul_ne PP_prime a0 b0)
  unfold RepE ptAdd0
  dsimp only
  rw [e1, e2, e3', e4']
  obtain ⟨f1, f2, f3⟩ := rep4_out (X := (P.add Q).x) (Y := (P.add Q).y) (S := 1 + TD * P.x * Q.x * P.y * Q.y) (T := 1 - TD * P.x * Q.x * P.y * Q.y) (k := 2 * (s.c * t.c))
  exact ⟨mul_ne PP_prime (mul_ne PP_prime k0 d1) (mul_ne PP_prime k0 d2), f1, f2, f3⟩
theorem RepS.add {P Q : Pt} {s t : L4 PP} (hP : RepS P s) (hQ : RepS Q t) : RepS (P.add Q) (ptAdd s t) := (RepE.padd0 hP hQ).set
theorem RepE.nil1 : RepE Pt.nil ⟨0, 1, 1, 0 * 1⟩ := ⟨fp_one_ne PP_prime, nil_scale.1, nil_scale.2.1, nil_scale.2.2⟩
theorem RepS.zero {s : L4 PP} (h : s.c = 0) : RepS Pt.nil s := by
  unfold RepS
  rw [ptSet_zero h]
  exact RepE.nil1
theorem RepE.inj {P Q : Pt} {s : L4 PP} (hP : RepE P s) (hQ : RepE Q s) : P = Q := by
  obtain ⟨a0, hx, hy, _⟩ := hP
  obtain ⟨_, hz, hw, _⟩ := hQ
  exact Pt.ext' (eq_of_mul PP_prime a0 (hx.symm.trans hz)) (eq_of_mul PP_prime a0 (hy.symm.trans hw))
theorem Pt.neg_nil : Pt.nil.neg = Pt.nil := Pt.ext' neg_zero' rfl
theorem RepS.neg {P : Pt} {s : L4 PP} (hP : RepS P s) : RepS P.neg (ptNeg s) := by
  by_cases h : s.c = 0
  · have h0 : RepS Pt.nil s := RepS.zero h
    have : P = Pt.nil := RepE.inj hP h0
    subst this
    rw [Pt.neg_nil]
    exact RepS.zero h
  · unfold RepS at hP
    rw [ptSet_id h] at hP
    obtain ⟨a0, hx, hy, hxy⟩ := hP
    refine RepE.set ⟨a0, ?_, hy, ?_⟩
    · show -s.a = -P.x * s.c
      rw [hx]
      exact (neg_scale _ 0 _).1
    · show -s.d = -P.x * P.y * s.c
      rw [hxy]
      exact (neg_scale _ _ _).2
theorem RepS.flat {P : Pt} {s : L4 PP} (h : RepS P s) : (ptSet s).a * (ptSet s).c ^ (PP - 2) = P.x ∧ (ptSet s).b * (ptSet s).c ^ (PP - 2) = P.y := by
  obtain ⟨a0, hx, hy, _⟩ := h
  have hi : (ptSet s).c * (ptSet s).c ^ (PP - 2) = 1 := fp_inv PP_prime a0
  rw [hx, hy]
  exact ⟨scale_inv hi, scale_inv hi⟩
theorem RepS.same {P Q : Pt} {s t : L4 PP} (hP : RepS P s) (hQ : RepS Q t) : ((ptSet s).a * (ptSet t).c = (ptSet t).a * (ptSet s).c ∧ (ptSet s).b * (ptSet t).c = (ptSet t).b * (ptSet s).c) ↔ P = Q := by
  obtain ⟨a0, hx, hy, _⟩ := hP
  obtain ⟨b0, hz, hw, _⟩ := hQ
  rw [hx, hy, hz, hw, cross PP_prime a0 b0, cross PP_prime a0 b0]
  constructor
  · rintro ⟨h1, h2⟩
    exact Pt.ext' h1 h2
  · rintro rfl
    exact ⟨rfl, rfl⟩
/-- The point of two numbers. -/
def ptE (x y : Fin PP) : L4 PP := ⟨x, y, 1, x * y⟩
theorem RepS.of (P : Pt) : RepS P (ptE P.x P.y) := RepE.set ⟨fp_one_ne PP_prime, (one_scale _ 0).1, (one_scale _ 0).1, (one_scale _ _).2.2⟩
/-- Of the first n bits. -/
def ptMul (s : L4 PP) (k : Nat) : Nat → L4 PP
  | 0 => ⟨0, 0, 0, 0⟩
  | n + 1 => if lbit k (255 - n) then ptAdd (ptAdd (ptMul s k n) (ptMul s k n)) s else ptAdd (ptMul s k n) (ptMul s k n)
def rpMul (r : Pj3) (k : Nat) : Nat → Pj3
  | 0 => rpNil
  | n + 1 => if lbit k (255 - n) then rpAdd (rpAdd (rpMul r k n) (rpMul r k n)) r else rpAdd (rpMul r k n) (rpMul r k n)
theorem half256 (k n : Nat) (hn : n < 256) : k / 2 ^ (256 - (n + 1)) = 2 * (k / 2 ^ (256 - n)) + k / 2 ^ (255 - n) % 2 := by
  have h1 : 256 - (n + 1) = 255 - n := by omega
  have h2 : 256 - n = (255 - n) + 1 := by omega
  rw [h1, h2, Nat.pow_succ, ← Nat.div_div_eq_div_mul]
  omega
theorem bit_yes {k i : Nat} (h : lbit k i = true) : k / 2 ^ i % 2 = 1 := of_decide_eq_true h
theorem bit_no {k i : Nat} (h : ¬ lbit k i = true) : k / 2 ^ i % 2 = 0 := by
  have : ¬ k / 2 ^ i % 2 = 1 := fun e => h (decide_eq_true e)
  omega
theorem ptMul_rep {P : Pt} {s : L4 PP} {k : Nat} (h : RepS P s) (hk : k < 2 ^ 256) : ∀ n, n ≤ 256 → RepS (P.mul (k / 2 ^ (256 - n))) (ptMul s k n) := by
  intro n
  induction n with
  | zero =>
    intro _
    rw [Nat.sub_zero, Nat.div_eq_of_lt hk]
    exact RepS.zero rfl
  | succ n ih =>
    intro hn
    have i1 := ih (by omega)
    rw [half256 k n (by omega)]
    unfold ptMul
    by_cases hb : lbit k (255 - n) = true
    · rw [if_pos hb, bit_yes hb, Pt.mul_add, Pt.mul_two, Pt.mul_one]
      exact (i1.add i1).add h
    · rw [if_neg hb, bit_no hb, Nat.add_zero, Pt.mul_two]
      exact i1.add i1
theorem rpMul_rep {P : Pt} {r : Pj3} {k : Nat} (h : RepR P r) (hk : k < 2 ^ 256) : ∀ n, n ≤ 256 → RepR (P.mul (k / 2 ^ (256 - n))) (rpMul r k n) := by
  intro n
  induction n with
  | zero =>
    intro _
    rw [Nat.sub_zero, Nat.div_eq_of_lt hk]
    exact RepR.nil
  | succ n ih =>
    intro hn
    have i1 := ih (by omega)
    rw [half256 k n (by omega)]
    unfold rpMul
    by_cases hb : lbit k (255 - n) = true
    · rw [if_pos hb, bit_yes hb, Pt.mul_add, Pt.mul_two, Pt.mul_one]
      exact (i1.add i1).add h
    · rw [if_neg hb, bit_no hb, Nat.add_zero, Pt.mul_two]
      exact i1.add i1
theorem RepS.mul {P : Pt} {s : L4 PP} {k : Nat} (h : RepS P s) (hk : k < 2 ^ 256) : RepS (P.mul k) (ptMul s k 256) := by
  have := ptMul_rep h hk 256 (Nat.le_refl _)
  rw [Nat.sub_self, Nat.pow_zero, Nat.div_one] at this
  exact this
theorem RepR.mul {P : Pt} {r : Pj3} {k : Nat} (h : RepR P r) (hk : k < 2 ^ 256) : RepR (P.mul k) (rpMul r k 256) := by
  have := rpMul_rep h hk 256 (Nat.le_refl _)
  rw [Nat.sub_self, Nat.pow_zero, Nat.div_one] at this
  exact this
end Go.Proofs.YtcijaoihcckofaaDoor
namespace Go.Proofs.YtcijaoihcckofaaDoor
set_option linter.unusedVariables false
set_option linter.unusedSimpArgs false
theorem neg_par {r : Fin PP} (h : r ≠ 0) : (-r).val % 2 = 1 - r.val % 2 := by
  have h0 : r.val ≠ 0 := fun e => h ((fp_zero_iff r).2 e)
  have hl := r.isLt
  have e : PP = 57896044618658097711785492504343953926634992332820282019728792003956564819949 := PP_eq
  rw [Fin.val_neg', Nat.mod_eq_of_lt (a := PP - r.val) (b := PP) (by omega)]
  omega
theorem rootC_even {u v : Fin PP} (h : (rootC EE II u v).2 = true) : (rootC EE II u v).1.val % 2 = 0 := by
  obtain ⟨r, hr⟩ := (rootC_spec h).2
  rw [hr]
  exact evenOf_even r (by decide +kernel)
section
variable {p : Nat} [NeZero p]
theorem on_root {d y r : Fin p} (h : (1 + d * (y * y)) * (r * r) = y * y - 1) : y * y - r * r = 1 + d * (r * r) * (y * y) := by grind
theorem root_on {d y x : Fin p} (h : y * y - x * x = 1 + d * (x * x) * (y * y)) : y * y - 1 = x * x * (1 + d * (y * y)) := by grind
theorem neg_sq' {d y r : Fin p} (h : y * y - r * r = 1 + d * (r * r) * (y * y)) : y * y - -r * -r = 1 + d * (-r * -r) * (y * y) := by grind
theorem neg_neg' (r : Fin p) : - -r = r := by grind
theorem frac_eq {a b c i : Fin p} (hi : b * i = 1) (h : c * b = a) : a * i = c := by grind
theorem frac_neg {q d i : Fin p} (hi : (q + 1) * i = 1) (h : (q + 1) * d = q) : -q * i = -d ∧ -(q * i) = -d := by constructor <;> grind
end
/-- A point's x, if it is even, is the root of what its y says. -/
theorem root_even (P : Pt) (h : P.x.val % 2 = 0) : rootC EE II (P.y * P.y - 1) (1 + TD * (P.y * P.y)) = (P.x, true) := by
  have hs : (rootC EE II (P.y * P.y - 1) (1 + TD * (P.y * P.y))).2 = true := by
    rw [root_on P.on]
    exact rootC_square PP_prime PP_EE II_sq
  have he := rootC_even hs
  have hq := on_root (rootC_spec hs).1
  generalize rootC EE II (P.y * P.y - 1) (1 + TD * (P.y * P.y)) = z at *
  obtain ⟨r, b⟩ := z
  dsimp only at hs he hq
  subst hs
  rcases pt_same_y PP_prime (TD_no P.y) P.on hq with e | e
  · rw [e]
  · by_cases h0 : r = 0
    · rw [e, h0]
      rfl
    · have := neg_par h0
      rw [← e] at this
      omega
/-- What a y's bytes say of x. -/
def ofX (n : Nat) : Fin PP × Bool := rootC EE II (ofK n * ofK n - 1) (1 + TD * (ofK n * ofK n))
theorem pair_eta {α β : Type} (z : α × β) : (z.1, z.2) = z := rfl
section
attribute [local irreducible] rootC EE II TD ofK
theorem ofX_def (n : Nat) : ofX n = rootC EE II (ofK n * ofK n - 1) (1 + TD * (ofK n * ofK n)) := rfl
end
theorem ofX_root {n : Nat} {b : Bool} {r y : Fin PP} (h : (ofX n).2 = b) (hr : r = (ofX n).1) (hy : y = ofK n) : (r, b) = rootC EE II (y * y - 1) (1 + TD * (y * y)) := by
  rw [hr, ← h, pair_eta, hy, ofX_def]
theorem ofX_even {n : Nat} (h : (ofX n).2 = true) : (ofX n).1.val % 2 = 0 := by
  unfold ofX at *
  exact rootC_even h
/-- Are they a point's? -/
def isPt (n : Nat) : Bool := decide (n % 57896044618658097711785492504343953926634992332820282019728792003956564819968 < PP) && ((ofX n).2 && !(decide (57896044618658097711785492504343953926634992332820282019728792003956564819968 ≤ n) && decide ((ofX n).1 = 0)))
def ptX (n : Nat) : Fin PP := if 57896044618658097711785492504343953926634992332820282019728792003956564819968 ≤ n then -(ofX n).1 else (ofX n).1
theorem ptX_on {n : Nat} (h : (ofX n).2 = true) : ofK n * ofK n - ptX n * ptX n = 1 + TD * (ptX n * ptX n) * (ofK n * ofK n) := by
  have hq := on_root (rootC_spec h).1
  have e : (rootC EE II (ofK n * ofK n - 1) (1 + TD * (ofK n * ofK n))).1 = (ofX n).1 := rfl
  rw [e] at hq
  unfold ptX
  split
  · exact neg_sq' hq
  · exact hq
theorem isPt_parts {n : Nat} (h : isPt n = true) : n % 57896044618658097711785492504343953926634992332820282019728792003956564819968 < PP ∧ (ofX n).2 = true ∧ ¬ (57896044618658097711785492504343953926634992332820282019728792003956564819968 ≤ n ∧ (ofX n).1 = 0) := by
  unfold isPt at h
  simp only [Bool.and_eq_true, decide_eq_true_eq, Bool.not_eq_true', Bool.and_eq_false_iff, decide_eq_false_iff_not] at h
  refine ⟨h.1, h.2.1, fun hc => ?_⟩
  rcases h.2.2 with e | e
  · exact e hc.1
  · exact e hc.2
/-- A point of its y and x's oddness. -/
def ptOf (n : Nat) (h : isPt n = true) : Pt := ⟨ptX n, ofK n, ptX_on (isPt_parts h).2.1⟩
/-- A point's bytes. -/
def pbn (P : Pt) : Nat := P.y.val + P.x.val % 2 * 57896044618658097711785492504343953926634992332820282019728792003956564819968
theorem PP_lt255 (x : Fin PP) : x.val < 57896044618658097711785492504343953926634992332820282019728792003956564819968 := by
  have := x.isLt
  have e : PP = 57896044618658097711785492504343953926634992332820282019728792003956564819949 := PP_eq
  omega
theorem pbn_lt (P : Pt) : pbn P < 115792089237316195423570985008687907853269984665640564039457584007913129639936 := by
  have := PP_lt255 P.y
  unfold pbn
  omega
theorem ofK_of {n : Nat} {y : Fin PP} (h : n % 57896044618658097711785492504343953926634992332820282019728792003956564819968 = y.val) : ofK n = y := by
  apply Fin.ext
  show n % 57896044618658097711785492504343953926634992332820282019728792003956564819968 % PP = y.val
  rw [h, Nat.mod_eq_of_lt y.isLt]
theorem ofK_val' {n : Nat} (h : n % 57896044618658097711785492504343953926634992332820282019728792003956564819968 < PP) : (ofK n).val = n % 57896044618658097711785492504343953926634992332820282019728792003956564819968 := by
  show n % 57896044618658097711785492504343953926634992332820282019728792003956564819968 % PP = _
  exact Nat.mod_eq_of_lt h
theorem pbn_mod (P : Pt) : pbn P % 57896044618658097711785492504343953926634992332820282019728792003956564819968 = P.y.val := by
  have := PP_lt255 P.y
  unfold pbn
  omega
theorem ofK_pbn (P : Pt) : ofK (pbn P) = P.y := ofK_of (pbn_mod P)
theorem pbn_odd (P : Pt) : 57896044618658097711785492504343953926634992332820282019728792003956564819968 ≤ pbn P ↔ P.x.val % 2 = 1 := by
  have := PP_lt255 P.y
  unfold pbn
  omega
/-- Of a number whose lowest 255 bits are a point's y. -/
theorem of_same {n : Nat} {P : Pt} (hy : ofK n = P.y) : ofX n = (if P.x.val % 2 = 1 then -P.x else P.x, true) := by
  unfold ofX
  rw [hy]
  split
  · next h =>
    have h0 : P.x ≠ 0 := by
      intro e
      rw [e] at h
      exact absurd h (by decide +kernel)
    have hp := neg_par h0
    exact root_even P.neg (by show (-P.x).val % 2 = 0; omega)
  · next h => exact root_even P (by omega)
/-- Each point's bytes are a point's: its own. -/
theorem isPt_pbn (P : Pt) : isPt (pbn P) = true := by
  have hx := of_same (ofK_pbn P)
  unfold isPt
  rw [pbn_mod, hx]
  simp only [Bool.and_eq_true, decide_eq_true_eq, Bool.not_eq_true', Bool.and_eq_false_iff, decide_eq_false_iff_not, pbn_odd]
  refine ⟨P.y.isLt, trivial, ?_⟩
  by_cases h : P.x.val % 2 = 1
  · right
    rw [if_pos h]
    intro e
    rw [neg_zero_iff] at e
    rw [e] at h
    exact absurd h (by decide +kernel)
  · exact .inl h
theorem ptX_pbn (P : Pt) : ptX (pbn P) = P.x := by
  have hx := of_same (ofK_pbn P)
  unfold ptX
  rw [hx]
  dsimp only
  by_cases h : P.x.val % 2 = 1
  · rw [if_pos ((pbn_odd P).2 h), if_pos h, neg_neg']
  · rw [if_neg (fun e => h ((pbn_odd P).1 e)), if_neg h]
theorem ptOf_pbn (P : Pt) : ptOf (pbn P) (isPt_pbn P) = P := Pt.ext' (ptX_pbn P) (ofK_pbn P)
/-- A point's bytes are those that it was read from. -/
theorem pbn_ptOf {n : Nat} (h : isPt n = true) (hn : n < 115792089237316195423570985008687907853269984665640564039457584007913129639936) : pbn (ptOf n h) = n := by
  obtain ⟨h1, h2, h3⟩ := isPt_parts h
  have he := ofX_even h2
  have hy : (ofK n).val = n % 57896044618658097711785492504343953926634992332820282019728792003956564819968 := ofK_val' h1
  show (ofK n).val + (ptX n).val % 2 * 57896044618658097711785492504343953926634992332820282019728792003956564819968 = n
  rw [hy]
  unfold ptX
  by_cases h0 : 57896044618658097711785492504343953926634992332820282019728792003956564819968 ≤ n
  · rw [if_pos h0]
    have hp := neg_par (fun e => h3 ⟨h0, e⟩)
    omega
  · rw [if_neg h0]
    omega
/-- The highest bit turned. -/
theorem turn_pt {P : Pt} {n : Nat} (hn : n = P.y.val + (1 - P.x.val % 2) * 57896044618658097711785492504343953926634992332820282019728792003956564819968) : if P.x = 0 then isPt n = false else n = pbn P.neg := by
  have hy := PP_lt255 P.y
  split
  · next h0 =>
    have hz : (0 : Fin PP).val % 2 = 0 := by decide +kernel
    have h1 : n = P.y.val + 57896044618658097711785492504343953926634992332820282019728792003956564819968 := by
      rw [hn, h0, hz, Nat.sub_zero, Nat.one_mul]
    have hk : ofK n = P.y := ofK_of (by omega)
    have hx := of_same hk
    rw [h0] at hx
    unfold isPt
    rw [hx]
    have e : decide (57896044618658097711785492504343953926634992332820282019728792003956564819968 ≤ n) = true := decide_eq_true (by omega)
    rw [e]
    rw [if_neg (by decide +kernel)]
    simp
  · next h0 =>
    have hp := neg_par h0
    show n = P.y.val + (-P.x).val % 2 * 57896044618658097711785492504343953926634992332820282019728792003956564819968
    rw [hp, hn]
def BX : Fin PP := Fin.ofNat PP 15112221349535400772501151409588531511454012693041857206046113283949847762202
def BY : Fin PP := Fin.ofNat PP 46316835694926478169428394003475163141307993866256225615783033603165251855960
def BP : Pt := ⟨BX, BY, by decide +kernel⟩
def BE : L4 PP := ptE BX BY
def BR : Pj3 := ⟨BX, BY, 1⟩
theorem BE_rep : RepS BP BE := RepS.of BP
theorem BR_rep : RepR BP BR := RepR.of BP
theorem by_sm : sm 4 * sm 5 ^ (PP - 2) = BY := frac_eq (b := sm 5) (fp_inv PP_prime (by decide +kernel)) (by decide +kernel)
theorem td_sm : -sm 121665 * sm 121666 ^ (PP - 2) = TD ∧ -(sm 121665 * sm 121666 ^ (PP - 2)) = TD := by
  have e : sm 121666 = Q0 + 1 := by decide +kernel
  have e2 : sm 121665 = Q0 := rfl
  rw [e, e2]
  exact frac_neg (fp_inv PP_prime (by decide +kernel)) D1_Q
theorem bx_root : rootC EE II (BY * BY - 1) (1 + TD * (BY * BY)) = (BX, true) := root_even BP (by decide +kernel)
/-- The group's order. -/
def LL' : Nat := 7237005577332262213973186563042994240857116359379907606001950938285454250989
set_option maxRecDepth 100000 in
theorem BP_order : BP.mul LL' = Pt.nil := by
  have h := RepS.mul (k := LL') BE_rep (by decide +kernel)
  have hr : ∀ s : L4 PP, s = ptMul BE LL' 256 → s.c ≠ 0 → s.a = 0 → s.b = s.c → RepS (BP.mul LL') s → BP.mul LL' = Pt.nil := by
    intro s _ hc ha hb hs
    unfold RepS at hs
    rw [ptSet_id hc] at hs
    obtain ⟨_, hx, hy, _⟩ := hs
    refine Pt.ext' ?_ ?_
    · rw [ha] at hx
      rcases fp_nz PP_prime hx.symm with e | e
      · exact e
      · exact absurd e hc
    · refine eq_of_mul PP_prime hc ?_
      rw [← hy, hb]
      exact (one_scale _ 0).1.trans (fq_mul_comm _ _)
  exact hr _ rfl (by decide +kernel) (by decide +kernel) (by decide +kernel) h
def pt (n : Nat) : Pt := if h : isPt n = true then ptOf n h else BP.mul n
def ptEs (n : Nat) : L4 PP := if isPt n = true then ptE (ptX n) (ofK n) else ptMul BE n 256
def ptRs (n : Nat) : Pj3 := if isPt n = true then ⟨ptX n, ofK n, 1⟩ else rpMul BR n 256
theorem ptEs_rep {n : Nat} (hn : n < 115792089237316195423570985008687907853269984665640564039457584007913129639936) : RepS (pt n) (ptEs n) := by
  unfold pt ptEs
  split
  · next h => exact RepS.of (ptOf n h)
  · exact BE_rep.mul hn
theorem ptRs_rep {n : Nat} (hn : n < 115792089237316195423570985008687907853269984665640564039457584007913129639936) : RepR (pt n) (ptRs n) := by
  unfold pt ptRs
  split
  · next h => exact RepR.of (ptOf n h)
  · exact BR_rep.mul hn
end Go.Proofs.YtcijaoihcckofaaDoor
namespace Go.Proofs.YtcijaoihcckofaaDoor
set_option linter.unusedVariables false
set_option linter.unusedSimpArgs false
set_option maxRecDepth 100000
open Go Go.RowKit
/-- The cells of a state. -/
def sv (s : L4 PP) : Array Value := ev s.a ++ ev s.b ++ ev s.c ++ ev s.d
theorem sv_size (s : L4 PP) : (sv s).size = 16 := rfl
theorem sv_list (s : L4 PP) : (sv s).toList = (ev s.a).toList ++ (ev s.b).toList ++ (ev s.c).toList ++ (ev s.d).toList := by simp [sv]
theorem sv_one (s : L4 PP) : (sv s).all (·.oneCell') = true := by
  have h : ∀ x : Fin PP, ∀ v ∈ (ev x).toList, v.oneCell' = true := fun x v hv => (Array.all_eq_true_iff_forall_mem.1 (ev_one x)) v (by simpa using hv)
  refine Array.all_eq_true_iff_forall_mem.2 fun v hv => ?_
  have hm : v ∈ (sv s).toList := by simpa using hv
  rw [sv_list] at hm
  simp only [List.mem_append] at hm
  rcases hm with ((hm | hm) | hm) | hm
  · exact h _ v hm
  · exact h _ v hm
  · exact h _ v hm
  · exact h _ v hm
/-- The k-th of a state's numbers. -/
def L4.at4 (s : L4 PP) : Nat → Fin PP
  | 0 => s.a
  | 1 => s.b
  | 2 => s.c
  | _ => s.d
theorem at_sv (s : L4 PP) {k j : Nat} (hk : k < 4) (v : Value) (h : (ev (s.at4 k)).toList[j]? = some v) : (sv s)[4 * k + j]? = some v := by
  have hj : j < 4 := by have := (List.getElem?_eq_some_iff.1 h).1; exact this
  have hl : (sv s)[4 * k + j]? = (sv s).toList[4 * k + j]? := by simp
  rw [hl, sv_list]
  rcases (show k = 0 ∨ k = 1 ∨ k = 2 ∨ k = 3 by omega) with rfl | rfl | rfl | rfl <;> rcases (show j = 0 ∨ j = 1 ∨ j = 2 ∨ j = 3 by omega) with rfl | rfl | rfl | rfl <;> exact h
theorem range_sv {W : World} {g : Nat} {t : TypeId} {s : L4 PP} (h : Blk W g t (sv s)) {k : Nat} (hk : k < 4) : W.rangeAt g (4 * k) (ev (s.at4 k)).toList := fun j v hv => by
  rw [h.cell]
  exact at_sv s hk v hv
/-- Cells that are written one after another. -/
def setL (cs : Array Value) (o : Nat) : List Value → Array Value
  | [] => cs
  | v :: r => setL (cs.setIfInBounds o v) (o + 1) r
attribute [local irreducible] ev
theorem Fr.setCells {w : World} {g : Nat} {t : TypeId} {L : List (Nat × TypeId × Array Value)} {R : List (Nat × TypeId × Nat)} (hL : ∀ p ∈ L, p.1 ≠ g) (hR : ∀ p ∈ R, p.1 ≠ g) (hw : w.heap.size ≤ g) :
    ∀ (vs : List Value) (o : Nat) (cs : Array Value) (W : World), Fr w W ((g, t, cs) :: L) R → Fr w (W.setCells g o vs) ((g, t, setL cs o vs) :: L) R
  | [], _, _, _, h => h
  | v :: r, o, cs, W, h => Fr.setCells hL hR hw r (o + 1) _ _ (h.setHead hL hR o v hw)
attribute [local irreducible] sv
end Go.Proofs.YtcijaoihcckofaaDoor
namespace Go.Proofs.YtcijaoihcckofaaDoor
set_option linter.unusedVariables false
set_option linter.unusedSimpArgs false
/-- A digit is put in the place of another one. -/
theorem digit_put {b n m k x : Nat} (hb : 0 < b) (hx : x < b) (h : m + b ^ k * (n / b ^ k % b) = n + b ^ k * x) (j : Nat) : m / b ^ j % b = if j = k then x else n / b ^ j % b := by
  have hp : 0 < b ^ k := Nat.pow_pos hb
  have hn : n = n % b ^ k + b ^ k * (n / b ^ k % b + b * (n / b ^ (k + 1))) := by
    have h1 := Nat.mod_add_div n (b ^ k)
    have h2 := Nat.mod_add_div (n / b ^ k) b
    rw [Nat.div_div_eq_div_mul, ← Nat.pow_succ] at h2
    rw [h2, h1]
  have hm : m = n % b ^ k + b ^ k * (x + b * (n / b ^ (k + 1))) := by
    generalize n / b ^ (k + 1) = hi at *
    generalize n / b ^ k % b = d at *
    rw [Nat.mul_add] at hn ⊢
    omega
  have hlo : n % b ^ k < b ^ k := Nat.mod_lt _ hp
  have hdiv : m / b ^ k = x + b * (n / b ^ (k + 1)) := by
    rw [hm, Nat.add_mul_div_left _ _ hp, Nat.div_eq_of_lt hlo, Nat.zero_add]
  have hmod : m % b ^ k = n % b ^ k := by
    rw [hm, Nat.add_mul_mod_self_left, Nat.mod_mod]
  by_cases hj : j = k
  · subst hj
    rw [if_pos rfl, hdiv, Nat.add_mul_mod_self_left, Nat.mod_eq_of_lt hx]
  · rw [if_neg hj]
    by_cases hlt : j < k
    · have h1 := dig_mod b m k j hb
      have h2 := dig_mod b n k j hb
      rw [if_pos hlt] at h1 h2
      rw [← h1, ← h2, hmod]
    · obtain ⟨d, rfl⟩ : ∃ d, j = k + 1 + d := ⟨j - k - 1, by omega⟩
      have h1 : m / b ^ (k + 1) = n / b ^ (k + 1) := by
        rw [Nat.pow_succ, ← Nat.div_div_eq_div_mul, hdiv, Nat.add_mul_div_left _ _ hb, Nat.div_eq_of_lt hx, Nat.zero_add, Nat.pow_succ]
      rw [Nat.pow_add, ← Nat.div_div_eq_div_mul, ← Nat.div_div_eq_div_mul, h1]
theorem digit_above {b n m k x : Nat} (hb : 0 < b) (hx : x < b) (h : m + b ^ k * (n / b ^ k % b) = n + b ^ k * x) : m / b ^ (k + 1) = n / b ^ (k + 1) := by
  have hp : 0 < b ^ k := Nat.pow_pos hb
  have h1 := Nat.mod_add_div n (b ^ k)
  have h2 := Nat.mod_add_div (n / b ^ k) b
  rw [Nat.div_div_eq_div_mul, ← Nat.pow_succ] at h2
  have hlo : n % b ^ k < b ^ k := Nat.mod_lt _ hp
  have hm : m = n % b ^ k + b ^ k * (x + b * (n / b ^ (k + 1))) := by
    generalize n / b ^ (k + 1) = hi at *
    generalize n / b ^ k % b = d at *
    rw [← h2] at h1
    rw [Nat.mul_add] at h1 ⊢
    omega
  have hdiv : m / b ^ k = x + b * (n / b ^ (k + 1)) := by
    rw [hm, Nat.add_mul_div_left _ _ hp, Nat.div_eq_of_lt hlo, Nat.zero_add]
  rw [Nat.pow_succ, ← Nat.div_div_eq_div_mul, hdiv, Nat.add_mul_div_left _ _ hb, Nat.div_eq_of_lt hx, Nat.zero_add, Nat.pow_succ]
theorem digit_le {b : Nat} (n k : Nat) : b ^ k * (n / b ^ k % b) ≤ n :=
  Nat.le_trans (Nat.mul_le_mul_left _ (Nat.mod_le _ _)) (by rw [Nat.mul_comm]; exact Nat.div_mul_le_self _ _)
/-- n with x in the place of digit k. -/
def putd (b n k x : Nat) : Nat := n - b ^ k * (n / b ^ k % b) + b ^ k * x
theorem putd_eq (b n k x : Nat) : putd b n k x + b ^ k * (n / b ^ k % b) = n + b ^ k * x := by
  have := digit_le (b := b) n k
  unfold putd
  generalize b ^ k * (n / b ^ k % b) = X at *
  generalize b ^ k * x = Y at *
  omega
def ScaleAt (b q a c0 k v c : Nat) : Prop := v / b ^ k = a / b ^ k ∧ v + b ^ k * c = a + (q - 1) * (a % b ^ k) + c0 ∧ c < q
theorem scale_start (b a : Nat) {q c0 : Nat} (h : c0 < q) : ScaleAt b q a c0 0 a c0 := by
  unfold ScaleAt
  rw [Nat.pow_zero, Nat.mod_one]
  omega
theorem scale_step {b q a c0 k v c : Nat} (hb : 0 < b) (hq : 0 < q) (h : ScaleAt b q a c0 k v c) :
    ScaleAt b q a c0 (k + 1) (putd b v k ((q * (v / b ^ k % b) + c) % b)) ((q * (v / b ^ k % b) + c) / b) := by
  obtain ⟨h1, h2, h3⟩ := h
  have hs : (q * (v / b ^ k % b) + c) % b < b := Nat.mod_lt _ hb
  have hp := putd_eq b v k ((q * (v / b ^ k % b) + c) % b)
  have hx : (q * (v / b ^ k % b) + c) / b < q := by
    rw [Nat.div_lt_iff_lt_mul hb]
    have : v / b ^ k % b ≤ b - 1 := by have := Nat.mod_lt (v / b ^ k) hb; omega
    have h5 := Nat.mul_le_mul_left q this
    have h6 : q * (b - 1) + q = q * b := by
      rw [← Nat.mul_succ]
      congr 1
      omega
    omega
  refine ⟨?_, ?_, hx⟩
  · rw [digit_above hb hs hp, Nat.pow_succ, ← Nat.div_div_eq_div_mul, ← Nat.div_div_eq_div_mul, h1]
  · rw [Nat.mod_pow_succ, Nat.pow_succ]
    rw [h1] at hp ⊢
    have e := Nat.mod_add_div (q * (a / b ^ k % b) + c) b
    generalize (q * (a / b ^ k % b) + c) % b = s at *
    generalize (q * (a / b ^ k % b) + c) / b = j at *
    generalize putd b v k s = v' at *
    generalize a / b ^ k % b = x at *
    generalize b ^ k = P at *
    have e2 := congrArg (P * ·) e
    simp only [Nat.mul_add] at e2
    rw [← Nat.mul_assoc] at e2
    obtain ⟨q', rfl⟩ : ∃ q', q = q' + 1 := ⟨q - 1, by omega⟩
    rw [Nat.add_sub_cancel, Nat.mul_add]
    rw [Nat.add_sub_cancel] at h2
    have e3 : P * ((q' + 1) * x) = q' * (P * x) + P * x := by rw [Nat.add_mul, Nat.mul_add, Nat.one_mul]; congr 1; ac_rfl
    omega
theorem scale_end {b q a c0 n v c : Nat} (h : ScaleAt b q a c0 n v c) (ha : a < b ^ n) (hq : 0 < q) (hl : q * a + c0 < b ^ n) : v = q * a + c0 := by
  obtain ⟨h1, h2, h3⟩ := h
  rw [Nat.mod_eq_of_lt ha] at h2
  obtain ⟨q', rfl⟩ : ∃ q', q = q' + 1 := ⟨q - 1, by omega⟩
  rw [Nat.add_sub_cancel] at h2
  rw [Nat.add_mul, Nat.one_mul] at hl ⊢
  rcases Nat.eq_zero_or_pos c with hc | hc
  · subst hc
    omega
  · have := Nat.mul_le_mul_left (b ^ n) hc
    omega
def TakeAt (b a y k v c : Nat) : Prop := v / b ^ k = a / b ^ k ∧ v + y % b ^ k = a + b ^ k * c ∧ c ≤ 1
theorem take_start (b a y : Nat) : TakeAt b a y 0 a 0 := by
  unfold TakeAt
  rw [Nat.pow_zero, Nat.mod_one]
  omega
theorem take_step {b a y k v c n : Nat} (hb : 0 < b) (h : TakeAt b a y k v c) (hn : n + y / b ^ k % b + c = v / b ^ k % b + b) :
    TakeAt b a y (k + 1) (putd b v k (n % b)) (1 - n / b) := by
  obtain ⟨h1, h2, h3⟩ := h
  have hs : n % b < b := Nat.mod_lt _ hb
  have hp := putd_eq b v k (n % b)
  refine ⟨?_, ?_, Nat.sub_le _ _⟩
  · rw [digit_above hb hs hp, Nat.pow_succ, ← Nat.div_div_eq_div_mul, ← Nat.div_div_eq_div_mul, h1]
  · have hj : n / b < 2 := by
      rw [Nat.div_lt_iff_lt_mul hb]
      have hx := Nat.mod_lt (v / b ^ k) hb
      generalize v / b ^ k % b = x at *
      generalize y / b ^ k % b = z at *
      omega
    rw [Nat.mod_pow_succ, Nat.pow_succ]
    rw [h1] at hp hn
    have e := Nat.mod_add_div n b
    have hx := Nat.mod_lt (a / b ^ k) hb
    have hy := Nat.mod_lt (y / b ^ k) hb
    generalize hm : n % b = s at *
    generalize hd : n / b = j at *
    generalize putd b v k s = v' at *
    generalize a / b ^ k % b = x at *
    generalize y / b ^ k % b = z at *
    generalize b ^ k = P at *
    have hjj : j = 0 ∨ j = 1 := by omega
    have e2 : P * (s + b * j + z + c) = P * (x + b) := by rw [e, hn]
    simp only [Nat.mul_add] at e2
    rcases hjj with rfl | rfl
    · rw [Nat.mul_zero, Nat.mul_zero] at e2
      rw [Nat.sub_zero, Nat.mul_one]
      omega
    · rw [Nat.mul_one] at e2
      rw [Nat.sub_self, Nat.mul_zero]
      omega
theorem take_end {b a y n v c : Nat} (h : TakeAt b a y n v c) (ha : a < b ^ n) (hy : y ≤ a) : v = a - y := by
  obtain ⟨h1, h2, h3⟩ := h
  rw [Nat.mod_eq_of_lt (show y < b ^ n by omega)] at h2
  rw [Nat.div_eq_of_lt ha] at h1
  have hp : 0 < b ^ n := by omega
  have hv : v < b ^ n := by
    have := Nat.div_add_mod v (b ^ n)
    rw [h1, Nat.mul_zero] at this
    have := Nat.mod_lt v hp
    omega
  have : c = 0 ∨ c = 1 := by omega
  rcases this with rfl | rfl
  · omega
  · omega
end Go.Proofs.YtcijaoihcckofaaDoor
namespace Go.Proofs.YtcijaoihcckofaaDoor
set_option linter.unusedVariables false
set_option linter.unusedSimpArgs false
open Go.RowKit
/-- The sixteen digits of a number, the lowest first. -/
def dg (n : Nat) : List Nat := (List.range 16).map fun i => n / 65536 ^ i % 65536
theorem dg_len (n : Nat) : (dg n).length = 16 := by simp [dg]
theorem dg_get (n : Nat) {i : Nat} (h : i < 16) : (dg n)[i]? = some (n / 65536 ^ i % 65536) := by simp [dg, h]
/-- The cells of a number. -/
def ds (n : Nat) : Array Value := ncs .u64 (dg n)
theorem ds_size (n : Nat) : (ds n).size = 16 := by rw [ds, ncs_size, dg_len]
theorem ds_get (n : Nat) {i : Nat} (h : i < 16) : (ds n)[i]? = some (.int .u64 ((n / 65536 ^ i % 65536 : Nat) : Int)) := by rw [ds, ncs_get, dg_get n h]; rfl
theorem ds_one (n : Nat) : (ds n).all (·.oneCell') = true := ncs_one _ _
theorem info_num : (Tryd.prog.info? 33).map (·.size) = some 16 := by kernel_rfl
theorem info_ds (n : Nat) : (Tryd.prog.info? 33).map (·.size) = some (ds n).size := by rw [ds_size]; exact info_num
theorem dg_step (n k : Nat) (hk : k < 16) : (dg (n % 65536 ^ k)).set k (n / 65536 ^ k % 65536) = dg (n % 65536 ^ (k + 1)) := by
  apply List.ext_getElem?
  intro i
  rw [List.getElem?_set]
  by_cases hi : i < 16
  · rw [dg_get (n % 65536 ^ (k + 1)) hi, dg_len, dig_mod 65536 n (k + 1) i (by omega)]
    by_cases e : k = i
    · subst e
      rw [if_pos rfl, if_pos hk, if_pos (by omega)]
    · rw [if_neg e, dg_get _ hi, dig_mod 65536 n k i (by omega)]
      by_cases h : i < k
      · rw [if_pos h, if_pos (by omega)]
      · rw [if_neg h, if_neg (by omega)]
  · have h1 : (dg (n % 65536 ^ (k + 1)))[i]? = none := by simp [dg_len]; omega
    have h2 : (dg (n % 65536 ^ k))[i]? = none := by simp [dg_len]; omega
    rw [h1, h2]
    have : k ≠ i := by omega
    simp [this]
theorem ds_step (n k : Nat) (hk : k < 16) : (ds (n % 65536 ^ k)).setIfInBounds k (.int .u64 ((n / 65536 ^ k % 65536 : Nat) : Int)) = ds (n % 65536 ^ (k + 1)) := by
  rw [ds, ncs_set, dg_step n k hk, ds]
theorem ds_zero : ds 0 = #[.int .u64 0, .int .u64 0, .int .u64 0, .int .u64 0, .int .u64 0, .int .u64 0, .int .u64 0, .int .u64 0, .int .u64 0, .int .u64 0, .int .u64 0, .int .u64 0, .int .u64 0, .int .u64 0, .int .u64 0, .int .u64 0] := by kernel_rfl
/-- Two bytes are a digit. -/
theorem two_bytes (n i : Nat) : n / 256 ^ (2 * i) % 256 + 256 * (n / 256 ^ (2 * i + 1) % 256) = n / 65536 ^ i % 65536 := by
  have h1 : 256 ^ (2 * i) = 65536 ^ i := by rw [Nat.pow_mul]
  have h2 : n / 256 ^ (2 * i + 1) = n / 65536 ^ i / 256 := by rw [Nat.pow_succ, h1, Nat.div_div_eq_div_mul]
  rw [h1, h2]
  omega
def NumPost (n : Nat) (w : World) (e : Ending) (w' : World) : Prop := e = .returned (.agg (ds n)) ∧ Below w.heap.size w w'
set_option maxRecDepth 100000 in
set_option maxHeartbeats 1000000 in
theorem rof_any (n : Nat) (w : World) (hn : n < 115792089237316195423570985008687907853269984665640564039457584007913129639936) :
    Calls Tryd.prog 53 #[.agg (ks n)] w (NumPost n w) := by
  have hfr := ((((Fr.start w).row (ks n) 23 (g := w.heap.size) rfl).any (ds 0) 33 16 (ds_size 0) (g := w.heap.size + 1) (by simp)).row (ds 0) 33 (g := w.heap.size + 1 + 1) (by simp))
  rw [ds_zero] at hfr
  have HFR := Lib.hid hfr
  clear hfr
  have HNN := Lib.hid hn
  clear hn
  go_enter Tryd.func53, Tryd.ntmps53
  go_wp2_with (fail)
  go_loopw [4] (fun c wr => ∃ k : Nat, k ≤ 16 ∧ c = .int .i64 k ∧ Fr w wr [(w.heap.size + 1 + 1, 33, ds (n % 65536 ^ k)), (w.heap.size, 23, ks n)] [(w.heap.size + 1, 33, 16)]) (fun c _ => 16 - (intOf c).toNat)
  case atStart => exact ⟨0, by omega, rfl, by have := HFR.out; rw [Nat.pow_zero, Nat.mod_one, ds_zero]; exact this⟩
  case round =>
    obtain ⟨k, hk, rfl, hF⟩ := hrel
    by_cases hlt : k < 16
    · have hB := hF.get (g := w.heap.size + 1 + 1) (t := 33) (cs := ds (n % 65536 ^ k)) (by simp)
      have hE := hF.get (g := w.heap.size) (t := 23) (cs := ks n) (by simp)
      have hc : wr.cell? ⟨w.heap.size, 2 * k, none⟩ = some (.int .u8 ((n / 256 ^ (2 * k) % 256 : Nat) : Int)) := by rw [hE.cell, ks_get _ (by omega)]
      have hc2 : wr.cell? ⟨w.heap.size, 2 * k + 1, none⟩ = some (.int .u8 ((n / 256 ^ (2 * k + 1) % 256 : Nat) : Int)) := by rw [hE.cell, ks_get _ (by omega)]
      have hd : wr.cell? ⟨w.heap.size + 1 + 1, k, none⟩ = some (.int .u64 ((n % 65536 ^ k / 65536 ^ k % 65536 : Nat) : Int)) := by rw [hB.cell, ds_get _ hlt]
      have hf := hB.frozen k
      have htb := two_bytes n k
      have hst := ds_step n k hlt
      have x1 : n / 256 ^ (2 * k) % 256 < 256 := Nat.mod_lt _ (by omega)
      have x2 : n / 256 ^ (2 * k + 1) % 256 < 256 := Nat.mod_lt _ (by omega)
      have HT := Lib.hid htb
      have HS := Lib.hid hst
      have HF := Lib.hid hF
      clear htb hst hF hB hE
      generalize n % 65536 ^ k / 65536 ^ k % 65536 = z at *
      generalize n / 256 ^ (2 * k) % 256 = p at *
      generalize n / 256 ^ (2 * k + 1) % 256 = q at *
      have b1 : (0 : Int) ≤ 2 * (k : Int) := by omega
      have b2 : 2 * (k : Int) < 32 := by omega
      have b3 : 2 * (k : Int) + 1 < 32 := by omega
      go_wp2
      go_region
      go_wp2
      go_roundw
      case rel =>
        refine ⟨k + 1, by omega, by go_num, ?_⟩
        have e : (p : Int) + 256 * (q : Int) = ((n / 65536 ^ k % 65536 : Nat) : Int) := by rw [← HT.out]; omega
        rw [e]
        refine Fr.drew ?_
        rw [← HS.out]
        exact HF.out.setHead (by simp <;> omega) (by simp <;> omega) _ _ (by omega)
      case measure => simp [intOf]; omega
    · obtain rfl : k = 16 := by omega
      have e16 : n % 65536 ^ 16 = n := Nat.mod_eq_of_lt HNN.out
      rw [e16] at hF
      have kT := hF.get (g := w.heap.size + 1 + 1) (t := 33) (cs := ds n) (by simp)
      obtain ⟨old, hold, kR⟩ := hF.old (g := w.heap.size + 1) (t := 33) (n := 16) (by simp)
      have kS := kR.setRow_same (ds n)
      have hB := below_setRow hF.below (show w.heap.size ≤ w.heap.size + 1 by omega) (ds n)
      have hold' : old.size = (ds n).size := by rw [hold, ds_size]
      have HF := Lib.hid hF
      have HS := Lib.hid kS
      have HB := Lib.hid hB
      have HO := Lib.hid hold'
      clear hF e16 kS hB hold hold'
      go_wp2_with (first | (refine wpList_load_row rfl 33 (.tmp 3) rfl (w.heap.size + 1 + 1) rfl 33 (ds n) (0, 0) _ kT Tryd.underlying33 rfl (info_ds n) ?_) | (refine wpList_store_row rfl 33 (.tmp 2) (.tmp 24) rfl (w.heap.size + 1) (ds n) rfl rfl 33 old kR (info_ds n) HO.out (ds_one _) ?_))
      exact bodyPost_ret (results_cell_row rfl _ _ (w.heap.size + 1) 33 (ds n) (0, 0) _ rfl HS.out Tryd.underlying33 rfl (info_ds n)) rfl ⟨rfl, HB.out⟩
theorem digit_low (n k : Nat) : n / 65536 ^ k % 65536 % 256 = n / 256 ^ (2 * k) % 256 := by rw [← two_bytes]; omega
theorem digit_high (n k : Nat) : n / 65536 ^ k % 65536 / 256 % 256 = n / 256 ^ (2 * k + 1) % 256 := by rw [← two_bytes]; omega
theorem ks_two (n k : Nat) (hk : k < 16) : ((ks (n % 65536 ^ k)).setIfInBounds (2 * k) (.int .u8 ((n / 256 ^ (2 * k) % 256 : Nat) : Int))).setIfInBounds (2 * k + 1) (.int .u8 ((n / 256 ^ (2 * k + 1) % 256 : Nat) : Int)) = ks (n % 65536 ^ (k + 1)) := by
  have h1 : ∀ j, 65536 ^ j = 256 ^ (2 * j) := fun j => by rw [Nat.pow_mul]
  rw [h1 k, ks_step n (2 * k) (by omega), ks_step n (2 * k + 1) (by omega), h1 (k + 1), Nat.mul_add]
theorem ks_two' (n k : Nat) (hk : k < 16) : ((ks (n % 65536 ^ k)).setIfInBounds (2 * k + 1) (.int .u8 ((n / 256 ^ (2 * k + 1) % 256 : Nat) : Int))).setIfInBounds (2 * k) (.int .u8 ((n / 256 ^ (2 * k) % 256 : Nat) : Int)) = ks (n % 65536 ^ (k + 1)) := by
  rw [← ks_two n k hk]
  apply Array.ext_getElem?
  intro i
  simp only [Array.getElem?_setIfInBounds, Array.size_setIfInBounds]
  by_cases a : 2 * k = i
  · have b : 2 * k + 1 ≠ i := by omega
    simp [a, b]
  · simp [a]
set_option maxRecDepth 100000 in
set_option maxHeartbeats 1000000 in
theorem rbytes_any (n : Nat) (w : World) (hn : n < 115792089237316195423570985008687907853269984665640564039457584007913129639936) :
    Calls Tryd.prog 17 #[.agg (ds n)] w (KeyPost n w) := by
  have hfr := ((((Fr.start w).row (ds n) 33 (g := w.heap.size) rfl).any (ks 0) 23 32 (ks_size 0) (g := w.heap.size + 1) (by simp)).row (ks 0) 23 (g := w.heap.size + 1 + 1) (by simp))
  rw [ks_zero] at hfr
  have HFR := Lib.hid hfr
  clear hfr
  have HNN := Lib.hid hn
  clear hn
  go_enter Tryd.func17, Tryd.ntmps17
  go_wp2_with (fail)
  go_loopw [4] (fun c wr => ∃ k : Nat, k ≤ 16 ∧ c = .int .i64 k ∧ Fr w wr [(w.heap.size + 1 + 1, 23, ks (n % 65536 ^ k)), (w.heap.size, 33, ds n)] [(w.heap.size + 1, 23, 32)]) (fun c _ => 16 - (intOf c).toNat)
  case atStart => exact ⟨0, by omega, rfl, by have := HFR.out; rw [Nat.pow_zero, Nat.mod_one, ks_zero]; exact this⟩
  case round =>
    obtain ⟨k, hk, rfl, hF⟩ := hrel
    by_cases hlt : k < 16
    · have hB := hF.get (g := w.heap.size + 1 + 1) (t := 23) (cs := ks (n % 65536 ^ k)) (by simp)
      have hE := hF.get (g := w.heap.size) (t := 33) (cs := ds n) (by simp)
      have hc : wr.cell? ⟨w.heap.size, k, none⟩ = some (.int .u64 ((n / 65536 ^ k % 65536 : Nat) : Int)) := by rw [hE.cell, ds_get _ hlt]
      have hf := hB.frozen (2 * k)
      have hf2 := hB.frozen (2 * k + 1)
      have hd1 : wr.cell? ⟨w.heap.size + 1 + 1, 2 * k, none⟩ = some (.int .u8 ((n % 65536 ^ k / 256 ^ (2 * k) % 256 : Nat) : Int)) := by rw [hB.cell, ks_get _ (by omega)]
      have hd2 : wr.cell? ⟨w.heap.size + 1 + 1, 2 * k + 1, none⟩ = some (.int .u8 ((n % 65536 ^ k / 256 ^ (2 * k + 1) % 256 : Nat) : Int)) := by rw [hB.cell, ks_get _ (by omega)]
      have hlo := digit_low n k
      have hhi := digit_high n k
      rw [Nat.mod_eq_of_lt (show n / 65536 ^ k % 65536 / 256 < 256 by have : n / 65536 ^ k % 65536 < 65536 := Nat.mod_lt _ (by omega); omega)] at hhi
      have hs1 := ks_two n k hlt
      have hs2 := ks_two' n k hlt
      have x0 : n / 65536 ^ k % 65536 < 65536 := Nat.mod_lt _ (by omega)
      have HLO := Lib.hid hlo
      have HHI := Lib.hid hhi
      have HS1 := Lib.hid hs1
      have HS2 := Lib.hid hs2
      have HF := Lib.hid hF
      clear hlo hhi hs1 hs2 hF hB hE
      generalize n % 65536 ^ k / 256 ^ (2 * k) % 256 = z1 at *
      generalize n % 65536 ^ k / 256 ^ (2 * k + 1) % 256 = z2 at *
      generalize n / 65536 ^ k % 65536 = d at *
      have b1 : (0 : Int) ≤ 2 * (k : Int) := by omega
      have b2 : 2 * (k : Int) < 32 := by omega
      have b3 : 2 * (k : Int) + 1 < 32 := by omega
      go_wp2
      go_region
      all_goals go_wp2
      all_goals go_roundw
      case rel =>
        refine ⟨k + 1, by omega, by go_num, ?_⟩
        have e1 : (d : Int) % 256 = ((n / 256 ^ (2 * k) % 256 : Nat) : Int) := by rw [← HLO.out]; omega
        have e2 : (d : Int) / 256 = ((n / 256 ^ (2 * k + 1) % 256 : Nat) : Int) := by rw [← HHI.out]; omega
        rw [e1, e2]
        refine Fr.drew ?_
        first
        | (rw [← HS1.out]; exact (HF.out.setHead (by simp <;> omega) (by simp <;> omega) _ _ (by omega)).setHead (by simp <;> omega) (by simp <;> omega) _ _ (by omega))
        | (rw [← HS2.out]; exact (HF.out.setHead (by simp <;> omega) (by simp <;> omega) _ _ (by omega)).setHead (by simp <;> omega) (by simp <;> omega) _ _ (by omega))
      case measure => simp [intOf]; omega
    · obtain rfl : k = 16 := by omega
      have e16 : n % 65536 ^ 16 = n := Nat.mod_eq_of_lt HNN.out
      rw [e16] at hF
      have kT := hF.get (g := w.heap.size + 1 + 1) (t := 23) (cs := ks n) (by simp)
      obtain ⟨old, hold, kR⟩ := hF.old (g := w.heap.size + 1) (t := 23) (n := 32) (by simp)
      have kS := kR.setRow_same (ks n)
      have hB := below_setRow hF.below (show w.heap.size ≤ w.heap.size + 1 by omega) (ks n)
      have hold' : old.size = (ks n).size := by rw [hold, ks_size]
      have HF := Lib.hid hF
      have HS := Lib.hid kS
      have HB := Lib.hid hB
      have HO := Lib.hid hold'
      clear hF e16 kS hB hold hold'
      go_wp2_with (first | (refine wpList_load_row rfl 23 (.tmp 3) rfl (w.heap.size + 1 + 1) rfl 23 (ks n) (0, 0) _ kT Tryd.underlying23 rfl (info_ks n) ?_) | (refine wpList_store_row rfl 23 (.tmp 2) (.tmp 25) rfl (w.heap.size + 1) (ks n) rfl rfl 23 _ kR (info_ks n) HO.out (ks_one n) ?_))
      exact bodyPost_ret (results_cell_row rfl _ _ (w.heap.size + 1) 23 (ks n) (0, 0) _ rfl HS.out Tryd.underlying23 rfl (info_ks n)) rfl ⟨rfl, HB.out⟩
end Go.Proofs.YtcijaoihcckofaaDoor
namespace Go.Proofs.YtcijaoihcckofaaDoor
set_option linter.unusedVariables false
set_option linter.unusedSimpArgs false
open Go Go.RowKit
/-- The number of columns. -/
def dval : List Nat → Nat
  | [] => 0
  | x :: r => x + 65536 * dval r
theorem dval_set : ∀ (l : List Nat) (j x : Nat), j < l.length → dval (l.set j x) + 65536 ^ j * l.getD j 0 = dval l + 65536 ^ j * x
  | [], j, x, h => absurd h (by simp)
  | y :: r, 0, x, _ => by simp [dval]; omega
  | y :: r, j + 1, x, h => by
    have ih := dval_set r j x (by simpa using h)
    show y + 65536 * dval (r.set j x) + 65536 ^ (j + 1) * (r.getD j 0) = y + 65536 * dval r + 65536 ^ (j + 1) * x
    rw [Nat.pow_succ, Nat.mul_comm (65536 ^ j) 65536, Nat.mul_assoc, Nat.mul_assoc]
    omega
theorem dval_zeros : ∀ n, dval (List.replicate n 0) = 0
  | 0 => rfl
  | n + 1 => by rw [List.replicate_succ, dval, dval_zeros n]
theorem dval_take_succ : ∀ (l : List Nat) (j : Nat), j < l.length → dval (l.take (j + 1)) = dval (l.take j) + 65536 ^ j * l.getD j 0
  | [], j, h => absurd h (by simp)
  | y :: r, 0, _ => by simp [dval]
  | y :: r, j + 1, h => by
    have ih := dval_take_succ r j (by simpa using h)
    show y + 65536 * dval (r.take (j + 1)) = y + 65536 * dval (r.take j) + 65536 ^ (j + 1) * (r.getD j 0)
    rw [ih, Nat.pow_succ, Nat.mul_comm (65536 ^ j) 65536, Nat.mul_assoc]
    omega
theorem dval_split : ∀ (l : List Nat) (j : Nat), dval l = dval (l.take j) + 65536 ^ j * dval (l.drop j)
  | l, 0 => by simp [dval]
  | [], j + 1 => by simp [dval]
  | y :: r, j + 1 => by
    have ih := dval_split r j
    show y + 65536 * dval r = y + 65536 * dval (r.take j) + 65536 ^ (j + 1) * dval (r.drop j)
    rw [ih, Nat.pow_succ, Nat.mul_comm (65536 ^ j) 65536, Nat.mul_assoc]
    omega
theorem dval_drop (l : List Nat) (j : Nat) (h : j < l.length) : dval (l.drop j) = l.getD j 0 + 65536 * dval (l.drop (j + 1)) := by
  rw [List.drop_eq_getElem_cons h]
  simp [dval, List.getD, List.getElem?_eq_getElem h]
theorem getD_set (l : List Nat) (i j x : Nat) (h : i < l.length) : (l.set i x).getD j 0 = if j = i then x else l.getD j 0 := by
  by_cases e : j = i
  · subst e
    simp [List.getD, List.getElem?_set, h]
  · have : i ≠ j := fun h => e h.symm
    simp [List.getD, List.getElem?_set, this, e]
/-- What is over behind j columns; the digits. -/
def ovr (l : List Nat) (j : Nat) : Nat := dval (l.take j) / 65536 ^ j
theorem ovr_zero (l : List Nat) : ovr l 0 = 0 := by simp [ovr, dval]
theorem ovr_step (l : List Nat) (j : Nat) (h : j < l.length) : (l.getD j 0 + ovr l j) / 65536 = ovr l (j + 1) := by
  unfold ovr
  rw [dval_take_succ l j h, Nat.pow_succ, ← Nat.div_div_eq_div_mul, Nat.add_mul_div_left _ _ (Nat.pow_pos (by omega)), Nat.add_comm]
theorem ovr_digit (l : List Nat) (j : Nat) (h : j < l.length) : (l.getD j 0 + ovr l j) % 65536 = dval l / 65536 ^ j % 65536 := by
  unfold ovr
  conv => rhs; rw [dval_split l j, Nat.add_mul_div_left _ _ (Nat.pow_pos (by omega)), dval_drop l j h]
  omega
theorem ovr_all (l : List Nat) : dval l / 65536 ^ l.length = ovr l l.length := by
  unfold ovr
  rw [List.take_of_length_le (Nat.le_refl _)]
/-- What stands in the columns behind i rows. -/
def ColAt (n x y z i : Nat) (l : List Nat) : Prop := l.length = n ∧ dval l = z % 65536 ^ i + x % 65536 ^ i * y ∧ ∀ j, l.getD j 0 ≤ 4300000000 * i
/-- What stands in the columns in row i, behind k products. -/
def ColIn (n x y v i k : Nat) (l : List Nat) : Prop := l.length = n ∧ dval l = v + 65536 ^ i * (x / 65536 ^ i % 65536) * (y % 65536 ^ k) ∧ (∀ j, l.getD j 0 ≤ 4300000000 * (i + 1)) ∧ ∀ j, i + k ≤ j → l.getD j 0 ≤ 4300000000 * i + 65535
theorem col_start (n x y z : Nat) : ColAt n x y z 0 (List.replicate n 0) := by
  refine ⟨by simp, ?_, fun j => ?_⟩
  · rw [dval_zeros, Nat.pow_zero, Nat.mod_one, Nat.mod_one]
    simp
  · by_cases h : j < n <;> simp [List.getD, List.getElem?_replicate, h]
theorem col_in0 {n x y i : Nat} {l : List Nat} (h : ColAt n x y 0 i l) : ColIn n x y (x % 65536 ^ i * y) i 0 l := by
  obtain ⟨h1, h2, h3⟩ := h
  refine ⟨h1, ?_, fun j => ?_, fun j _ => ?_⟩
  · rw [Nat.pow_zero, Nat.mod_one, Nat.mul_zero, Nat.add_zero, h2, Nat.zero_mod, Nat.zero_add]
  · have e : 4300000000 * (i + 1) = 4300000000 * i + 4300000000 := Nat.mul_succ _ _
    have k1 := h3 j
    clear h2 h3
    generalize 4300000000 * (i + 1) = X at *
    generalize 4300000000 * i = Y at *
    omega
  · have e : 4300000000 * (i + 1) = 4300000000 * i + 4300000000 := Nat.mul_succ _ _
    have k1 := h3 j
    clear h2 h3
    generalize 4300000000 * (i + 1) = X at *
    generalize 4300000000 * i = Y at *
    omega
theorem col_step {n x y v i k : Nat} {l : List Nat} (hk : i + k < n) (h : ColIn n x y v i k l) :
    ColIn n x y v i (k + 1) (l.set (i + k) (l.getD (i + k) 0 + x / 65536 ^ i % 65536 * (y / 65536 ^ k % 65536))) ∧ l.getD (i + k) 0 ≤ 4300000000 * i + 65535 ∧ x / 65536 ^ i % 65536 * (y / 65536 ^ k % 65536) ≤ 4294836225 := by
  obtain ⟨h1, h2, h3, h4⟩ := h
  have hp : x / 65536 ^ i % 65536 * (y / 65536 ^ k % 65536) ≤ 65535 * 65535 := by
    have hx := Nat.mod_lt (x / 65536 ^ i) (show 0 < 65536 by omega)
    have hy := Nat.mod_lt (y / 65536 ^ k) (show 0 < 65536 by omega)
    exact Nat.mul_le_mul (by omega) (by omega)
  have hc := h4 (i + k) (Nat.le_refl _)
  refine ⟨⟨by rw [List.length_set, h1], ?_, fun j => ?_, fun j hj => ?_⟩, hc, by omega⟩
  · have hs := dval_set l (i + k) (l.getD (i + k) 0 + x / 65536 ^ i % 65536 * (y / 65536 ^ k % 65536)) (by omega)
    rw [Nat.mod_pow_succ, Nat.mul_add]
    rw [Nat.mul_add, h2] at hs
    have e : 65536 ^ i * (x / 65536 ^ i % 65536) * (65536 ^ k * (y / 65536 ^ k % 65536)) = 65536 ^ (i + k) * (x / 65536 ^ i % 65536 * (y / 65536 ^ k % 65536)) := by
      rw [Nat.pow_add]
      ac_rfl
    rw [e]
    omega
  · rw [getD_set _ _ _ _ (by omega)]
    have := h3 j
    split <;> omega
  · rw [getD_set _ _ _ _ (by omega), if_neg (by omega)]
    exact h4 j (by omega)
theorem col_end {n x y z i : Nat} {l : List Nat} (hy : y < 65536 ^ 16) (h : ColIn n x y (z % 65536 ^ (i + 1) + x % 65536 ^ i * y) i 16 l) : ColAt n x y z (i + 1) l := by
  obtain ⟨h1, h2, h3, h4⟩ := h
  refine ⟨h1, ?_, h3⟩
  rw [h2, Nat.mod_eq_of_lt hy, Nat.mod_pow_succ (b := 65536) (x := x), Nat.add_mul]
  omega
theorem col_all {n x y z : Nat} {l : List Nat} (hx : x < 65536 ^ 16) (hz : z < 65536 ^ 16) (h : ColAt n x y z 16 l) : dval l = x * y + z := by
  rw [h.2.1, Nat.mod_eq_of_lt hx, Nat.mod_eq_of_lt hz, Nat.add_comm]
/-- The cells of columns. -/
def cs64 (l : List Nat) : Array Value := ncs .u64 l
theorem cs64_size (l : List Nat) : (cs64 l).size = l.length := ncs_size _ _
theorem cs64_get (l : List Nat) {j : Nat} (h : j < l.length) : (cs64 l)[j]? = some (.int .u64 ((l.getD j 0 : Nat) : Int)) := by
  rw [cs64, ncs_get]
  simp [List.getD, List.getElem?_eq_getElem h]
  rfl
theorem cs64_set (l : List Nat) (j x : Nat) : (cs64 l).setIfInBounds j (.int .u64 (x : Int)) = cs64 (l.set j x) := ncs_set _ _ _ _
/-- 'make([]uint64, n)'. -/
theorem run_mku {P : Program} (t e : TypeId) (ht : P.underlying t = some (.slice e)) (he : (P.info? e).map (fun i => (i.zero, i.size, i.bytes)) = some (some (.int .u64 0), 1, 8)) (n : Nat) (hn : n ≤ 1000000) (W : World) :
    (Instr.makeSlice t (.int .i64 (n : Int)) (.int .i64 (n : Int))).run P W = .ok (.slice (some ⟨W.heap.size, 0, none⟩) n n) (W.alloc (.cells (cs64 (List.replicate n 0)) e)) := by
  obtain ⟨i, hi, hz, hs, hb⟩ := info_parts he
  have h := run_make (P := P) W t e i _ ht hi hz .i64 .i64 (n : Int) (n : Int) (by omega) (by omega) (by rw [hb]; omega) (by omega)
  simp only [Int.toNat_natCast, hs, Nat.mul_one] at h
  rw [h]
  have : madeCells (Value.int .u64 0).cells n = cs64 (List.replicate n 0) := by
    apply Array.toList_inj.1
    show (madeCells #[Value.int .u64 0] n).toList = _
    rw [toList_madeCells_one]
    simp [cs64, ncs, nc, List.map_replicate]
  rw [this]
theorem info_u64 : (Tryd.prog.info? 24).map (fun i => (i.zero, i.size, i.bytes)) = some (some (.int .u64 0), 1, 8) := by kernel_rfl
end Go.Proofs.YtcijaoihcckofaaDoor
namespace Go.Proofs.YtcijaoihcckofaaDoor
set_option linter.unusedVariables false
set_option linter.unusedSimpArgs false
open Go Go.RowKit
theorem cs64_at (l : List Nat) (i : Nat) : (cs64 l)[i]? = l[i]?.map (nc .u64) := ncs_get _ _ _
theorem nc_def (x : Nat) : nc .u64 x = .int .u64 (x : Int) := rfl
/-- The slice '(A, n, c)' reads as the bytes l; what is read lies below block B. -/
structure US (w : World) (B : Nat) (A : Option Addr) (n c : Nat) (l : List Nat) : Prop where
  len : l.length = n
  cap : n ≤ c
  nil_ : A = none → c = 0
  at_ : 0 < n → ∃ b o, A = some ⟨b, o, none⟩ ∧ b < B ∧ ∀ (j x : Nat), l[j]? = some x → w.cell? ⟨b, o + j, none⟩ = some (.int .u64 (x : Int))
section
variable {w w' : World} {B B' n c : Nat} {A : Option Addr} {l : List Nat}
theorem US.nil (w : World) (B : Nat) : US w B none 0 0 [] := ⟨rfl, Nat.le_refl _, fun _ => rfl, fun h => absurd h (by omega)⟩
theorem US.keep (h : US w B A n c l) (hk : ∀ p : Addr, p.block < B → w'.cell? p = w.cell? p) : US w' B A n c l :=
  ⟨h.len, h.cap, h.nil_, fun hn => by
    obtain ⟨b, o, e, hb, hc⟩ := h.at_ hn
    exact ⟨b, o, e, hb, fun j x hx => (hk _ hb).trans (hc j x hx)⟩⟩
theorem US.more (h : US w B A n c l) (hB : B ≤ B') : US w B' A n c l :=
  ⟨h.len, h.cap, h.nil_, fun hn => by
    obtain ⟨b, o, e, hb, hc⟩ := h.at_ hn
    exact ⟨b, o, e, by omega, hc⟩⟩
theorem US.below (h : US w B A n c l) (hb : Below B w w') : US w' B A n c l := h.keep fun _ hp => hb.cell hp
theorem US.drew (h : US w B A n c l) : US w.drew B A n c l := ⟨h.1, h.2, h.3, h.4⟩
theorem US.alloc (h : US w B A n c l) (hB : B ≤ w.heap.size) (o : Obj) : US (w.alloc o) B A n c l := h.keep fun p hp => World.cell?_alloc_lt w o p (by omega)
theorem US.setCell (h : US w B A n c l) {p : Addr} (hB : B ≤ p.block) (u : Value) : US (w.setCell p u) B A n c l :=
  h.keep fun q hq => World.cell?_setCell_other w p q u (fun e => by subst e; omega)
theorem US.grown (h : US w B A n c l) {row : Option Nat} (hg : w.grownBy w' row) (hB : B ≤ w.heap.size) (hr : ∀ g, row = some g → B ≤ g) : US w' B A n c l :=
  h.keep fun p hp => World.cell?_of_block (hg.block p.block (by omega) (fun e => by have := hr _ e.symm; omega))
/-- What is read there is the block's. -/
theorem US.ofBlk {g : Nat} {t : TypeId} (h : Blk w g t (cs64 l)) (n : Nat) (hn : n = l.length) (B : Nat) (hB : g < B) : US w B (some ⟨g, 0, none⟩) n n l :=
  ⟨hn.symm, Nat.le_refl _, (by intro e; cases e), fun _ => ⟨g, 0, rfl, hB, fun j x hx => by rw [Nat.zero_add, h.cell, cs64_at, hx]; rfl⟩⟩
theorem US.at' (h : US w B A n c l) {k : Nat} (hk : k < n) : ∃ b o x, A = some ⟨b, o, none⟩ ∧ b < B ∧ l[k]? = some x ∧ w.cell? ⟨b, o + k, none⟩ = some (.int .u64 (x : Int)) := by
  obtain ⟨b, o, e, hb, hc⟩ := h.at_ (by omega)
  have hl : k < l.length := by have := h.len; omega
  exact ⟨b, o, l[k], e, hb, List.getElem?_eq_getElem hl, hc k _ (List.getElem?_eq_getElem hl)⟩
end
/-- The slice v of bytes l is the call's own: nil and nothing, or the head of a block from 'base' on. -/
def OwnU (w : World) (base : Nat) (e : TypeId) (v : Value) (l : List Nat) : Prop := w.ownsRow base e 1 v l.length (l.map (nc .u64))
section
variable {w w' : World} {base : Nat} {e : TypeId} {v : Value} {l : List Nat}
theorem OwnU.nil (w : World) (base : Nat) (e : TypeId) : OwnU w base e (.slice none 0 0) [] := ⟨rfl, .inl ⟨rfl, rfl⟩⟩
theorem OwnU.alloc (h : OwnU w base e v l) (o : Obj) : OwnU (w.alloc o) base e v l := World.ownsRow.alloc h o
theorem OwnU.drew (h : OwnU w base e v l) : OwnU w.drew base e v l := h
theorem OwnU.ofBlk {g : Nat} (h : Blk w g e (cs64 l)) (n : Nat) (hn : n = l.length) (hm : n ≤ maxLen) (hb : base ≤ g) : OwnU w base e (.slice (some ⟨g, 0, none⟩) n n) l := by
  subst hn
  exact ⟨by simp, .inr ⟨g, _, _, rfl, hb, h, Nat.le_refl _, hm, by simp [cs64, ncs], by rw [List.take_of_length_le (by simp [cs64_size])]; simp [cs64, ncs]⟩⟩
theorem OwnU.form (h : OwnU w base e v l) : ∃ A n c, v = .slice A n c ∧ US w w.heap.size A n c l ∧ ∀ g, v.ownBlock = some g → base ≤ g := by
  have hlt := World.ownsRow.lt h
  rcases h.2 with ⟨rfl, h0⟩ | ⟨g, cap, cur, rfl, hb, hh, hc, hm, hs, ht⟩
  · obtain rfl : l = [] := List.eq_nil_of_length_eq_zero h0
    exact ⟨none, 0, 0, rfl, US.nil _ _, fun g hg => (hlt g hg).1⟩
  · refine ⟨_, _, _, rfl, ⟨rfl, hc, by intro e; (cases e), fun _ => ⟨g, 0, rfl, (hlt g rfl).2, fun j x hx => ?_⟩⟩, fun g hg => (hlt g hg).1⟩
    have := World.ownsRow.cells h (g := g) rfl j (nc .u64 x) (by simp [hx])
    rw [Addr.add_lit] at this
    exact this
theorem OwnU.own (h : OwnU w base e v l) {g : Nat} (hg : v.ownBlock = some g) : base ≤ g ∧ g < w.heap.size := World.ownsRow.lt h g hg
end
section
variable {P : Program} {w : World} {ops : Array Oper} {rest : List Oper} {o : Oper} {a : Act} {Q : Exit → Act → World → Prop}
theorem us_cells {B : Nat} {A : Option Addr} {m c : Nat} {l : List Nat} (hr : US w B A m c l) : ∀ ad, A = some ad → ∀ j u, (l.map (nc .u64))[j]? = some u → w.cell? (ad.add j) = some u := by
  rintro ad rfl j u hu
  rw [List.getElem?_map] at hu
  obtain ⟨x, hx, rfl⟩ := Option.map_eq_some_iff.1 hu
  obtain ⟨b, o, e, _, hc⟩ := hr.at_ (by have := hr.len; have := (List.getElem?_eq_some_iff.1 hx).1; omega)
  injection e with e
  subst e
  rw [Addr.add_lit]
  exact hc j x hx
theorem nc_all (l : List Nat) : ∀ u ∈ l.map (nc .u64), u.oneCell' = true := by
  intro u hu
  obtain ⟨_, _, rfl⟩ := List.mem_map.1 hu
  rfl
/-- 'append(v, x...)' of bytes, v the call's own: it may grow. -/
theorem run_app_ownU (t ty : TypeId)
    (e : TypeId) (ht : P.underlying t = some (.slice e)) (he : (P.info? e).map (fun i => (i.zero, i.size, i.bytes)) = some (some (.int .u64 0), 1, 8))
    (base : Nat) (v : Value) (l : List Nat) (hown : OwnU w base e v l)
    (B m c : Nat) (A : Option Addr) (l2 : List Nat) (hr : US w B A m c l2) (hbig : l.length + m ≤ 1000000) (hbase : base ≤ w.heap.size) :
    ∃ v' w', (Builtin.append_ #[t, t] ty #[v, .slice A m c]).run P w = .ok v' w' ∧ OwnU w' base e v' (l ++ l2) ∧ w.grownBy w' v.ownBlock ∧ (v'.ownBlock = v.ownBlock ∨ v'.ownBlock = some w.heap.size) := by
  obtain ⟨i, hi, hz, hsz, hby⟩ := info_parts he
  have hm := hr.len
  subst hm
  rcases A with _ | ad
  · have h0 := hr.nil_ rfl
    have h1 := hr.cap
    obtain rfl : l2 = [] := List.eq_nil_of_length_eq_zero (by omega)
    subst h0
    exact ⟨v, w, run_append_owned_none (P := P) w base t ty e i 1 ht hi v _ _ hown, by simpa using hown, World.grownBy.refl _ _, .inl rfl⟩
  · obtain ⟨v', w', h1, h2, h3, _, h5⟩ := run_append_own_at (P := P) w base t ty e i _ 1 8 ht hi hz hsz hby rfl (by omega) v _ _ hown ad l2.length c (l2.map (nc .u64)) (by simp) (us_cells hr _ rfl) (nc_all _) (by simp only [maxLen]; omega) (by omega) hbase
    exact ⟨v', w', h1, by unfold OwnU; rw [List.length_append, List.map_append]; exact h2, h3, h5⟩
theorem wpList_app_ownU (hg : o.guard = none) (s x : Operand) (t : TypeId) (ho : o.op = .call { callee := .builtin .append, args := #[s, x], argTypes := #[t, t] })
    (e : TypeId) (ht : P.underlying t = some (.slice e)) (he : (P.info? e).map (fun i => (i.zero, i.size, i.bytes)) = some (some (.int .u64 0), 1, 8))
    (base : Nat) (v : Value) (l : List Nat) (hs : a.eval s = v) (hown : OwnU w base e v l)
    (B m c : Nat) (A : Option Addr) (l2 : List Nat) (hx : a.eval x = .slice A m c) (hr : US w B A m c l2) (hbig : l.length + m ≤ 1000000) (hbase : base ≤ w.heap.size)
    (h : ∀ v' w', OwnU w' base e v' (l ++ l2) → w.grownBy w' v.ownBlock → (v'.ownBlock = v.ownBlock ∨ v'.ownBlock = some w.heap.size) → wpList P ops Q rest (a.put o.dst v') w') : wpList P ops Q (o :: rest) a w := by
  refine wpList_plain hg fun K hK => ?_
  obtain ⟨v', w', hrun, h1, h2, h3⟩ := run_app_ownU (P := P) (w := w) t o.type e ht he base v l hown B m c A l2 hr hbig hbase
  unfold Oper.wp
  simp [execOp, ho, resolve, invoke, builtin, hs, hx, hrun, Result.andThen]
  exact hK _ _ (h v' w' h1 h2 h3)
end
section
variable {P : Program} {w : World} {ops : Array Oper} {o : Oper} {a : Act} {K : Act → World → Prop} {Q : Exit → Act → World → Prop} {E : Prop}
theorem step_app_ownU (hg : o.guard = none) (s x : Operand) (t : TypeId) (ho : o.op = .call { callee := .builtin .append, args := #[s, x], argTypes := #[t, t] })
    (e : TypeId) (ht : P.underlying t = some (.slice e)) (he : (P.info? e).map (fun i => (i.zero, i.size, i.bytes)) = some (some (.int .u64 0), 1, 8))
    (base : Nat) (v : Value) (l : List Nat) (hs : a.eval s = v) (hown : OwnU w base e v l)
    (B m c : Nat) (A : Option Addr) (l2 : List Nat) (hx : a.eval x = .slice A m c) (hr : US w B A m c l2) (hbig : l.length + m ≤ 1000000) (hbase : base ≤ w.heap.size)
    (h : ∀ v' w', OwnU w' base e v' (l ++ l2) → w.grownBy w' v.ownBlock → (v'.ownBlock = v.ownBlock ∨ v'.ownBlock = some w.heap.size) → K (a.put o.dst v') w') :
    if Region.wanted o (yielded ops a.tmps) = true then Oper.wp P o a w K Q else E := by
  have hw : Region.wanted o (yielded ops a.tmps) = true := by simp [Region.wanted, hg]
  rw [if_pos hw]
  obtain ⟨v', w', hrun, h1, h2, h3⟩ := run_app_ownU (P := P) (w := w) t o.type e ht he base v l hown B m c A l2 hr hbig hbase
  unfold Oper.wp
  simp [execOp, ho, resolve, invoke, builtin, hs, hx, hrun, Result.andThen]
  exact h v' w' h1 h2 h3
end
end Go.Proofs.YtcijaoihcckofaaDoor
namespace Go.Proofs.YtcijaoihcckofaaDoor
set_option linter.unusedVariables false
set_option linter.unusedSimpArgs false
open Go Go.RowKit
/-- m digits of T. -/
def dgl (T m : Nat) : List Nat := (List.range m).map fun t => T / 65536 ^ t % 65536
theorem dgl_len (T m : Nat) : (dgl T m).length = m := by simp [dgl]
theorem dgl_get (T m : Nat) {j : Nat} (h : j < m) : (dgl T m).getD j 0 = T / 65536 ^ j % 65536 := by simp [dgl, List.getD, h]
theorem dgl_step (T m : Nat) : dgl T (m + 1) = dgl T m ++ [T / 65536 ^ m % 65536] := by simp [dgl, List.range_succ]
theorem dgl_small (T m j : Nat) : (dgl T m).getD j 0 < 65536 := by
  by_cases h : j < m
  · rw [dgl_get T m h]
    exact Nat.mod_lt _ (by omega)
  · simp [List.getD, dgl, h]
theorem dval_append : ∀ (l r : List Nat), dval (l ++ r) = dval l + 65536 ^ l.length * dval r
  | [], r => by simp [dval]
  | x :: l, r => by
    have ih := dval_append l r
    show x + 65536 * dval (l ++ r) = x + 65536 * dval l + 65536 ^ (l.length + 1) * dval r
    rw [ih, Nat.pow_succ, Nat.mul_comm (65536 ^ l.length) 65536, Nat.mul_assoc]
    omega
theorem dval_dgl (T : Nat) : ∀ m, dval (dgl T m) = T % 65536 ^ m
  | 0 => by simp [dgl, dval, Nat.mod_one]
  | m + 1 => by
    rw [dgl_step, dval_append, dval_dgl T m, dgl_len, Nat.mod_pow_succ]
    simp [dval]
/-- The columns l, of which the first j are digits already. -/
def car (l : List Nat) (j : Nat) : List Nat := (List.range l.length).map fun t => if t < j then dval l / 65536 ^ t % 65536 else l.getD t 0
theorem car_len (l : List Nat) (j : Nat) : (car l j).length = l.length := by simp [car]
theorem car_zero (l : List Nat) : car l 0 = l := by
  apply List.ext_getElem?
  intro t
  by_cases h : t < l.length
  · simp [car, h, List.getD, List.getElem?_eq_getElem h]
  · simp [car, h]
theorem car_all (l : List Nat) : car l l.length = dgl (dval l) l.length := by
  apply List.ext_getElem?
  intro t
  by_cases h : t < l.length
  · simp [car, dgl, h]
  · simp [car, dgl, h]
theorem car_at (l : List Nat) {j : Nat} (h : j < l.length) : (car l j)[j]? = some (l.getD j 0) := by simp [car, h]
theorem car_step (l : List Nat) {j : Nat} (h : j < l.length) : (car l j).set j (dval l / 65536 ^ j % 65536) = car l (j + 1) := by
  apply List.ext_getElem?
  intro t
  rw [List.getElem?_set]
  by_cases ht : t < l.length
  · by_cases e : j = t
    · subst e
      simp [car, h]
    · have e2 : (t < j + 1) = (t < j) := by rw [eq_iff_iff]; omega
      simp [car, ht, e, e2]
  · have : j ≠ t := by omega
    simp [car, ht, this]
theorem ovr_bound (l : List Nat) (hb : ∀ j, l.getD j 0 ≤ 1099511627776) : ∀ j, j ≤ l.length → ovr l j ≤ 1099511627776
  | 0, _ => by rw [ovr_zero]; omega
  | j + 1, h => by
    have ih := ovr_bound l hb j (by omega)
    have hj := hb j
    rw [← ovr_step l j (by omega)]
    omega
theorem OwnU.slice {w : World} {base : Nat} {e : TypeId} {v : Value} {l : List Nat} (h : OwnU w base e v l) (hl : 0 < l.length) : ∃ g cap, v = .slice (some ⟨g, 0, none⟩) l.length cap ∧ base ≤ g ∧ g < w.heap.size := by
  rcases h.2 with ⟨_, h0⟩ | ⟨g, cap, cur, rfl, hb, hg, _⟩
  · omega
  · exact ⟨g, cap, rfl, hb, (Array.getElem?_eq_some_iff.1 hg).1⟩
theorem OwnU.cell {w : World} {base g n cap : Nat} {e : TypeId} {l : List Nat} (h : OwnU w base e (.slice (some ⟨g, 0, none⟩) n cap) l) (hn : n = l.length) {j x : Nat} (hx : l[j]? = some x) : w.cell? ⟨g, j, none⟩ = some (.int .u64 (x : Int)) := by
  subst hn
  have hj := (List.getElem?_eq_some_iff.1 hx).1
  have h2 := World.ownsRow.cellAt (size := 1) h j (by omega)
  rw [h2, List.getElem?_map, hx]
  rfl
theorem OwnU.set {w : World} {base g n cap : Nat} {e : TypeId} {l : List Nat} (h : OwnU w base e (.slice (some ⟨g, 0, none⟩) n cap) l) (hn : n = l.length) (j x : Nat) :
    OwnU (w.setCell ⟨g, j, none⟩ (.int .u64 (x : Int))) base e (.slice (some ⟨g, 0, none⟩) n cap) (l.set j x) ∧ w.grownBy (w.setCell ⟨g, j, none⟩ (.int .u64 (x : Int))) (some g) := by
  subst hn
  obtain ⟨h1, h2⟩ := World.ownsRow.stored (size := 1) h j (.int .u64 (x : Int))
  refine ⟨?_, h2⟩
  unfold OwnU
  rw [List.length_set, List.map_set]
  exact h1
/-- What has grown from w, a row beyond w's own turning too. -/
theorem grown_more {a b c : World} {row : Option Nat} {r2 : Option Nat} (h : a.grownBy b row) (k : b.grownBy c r2) (hr : r2 = row ∨ ∀ g, r2 = some g → a.heap.size ≤ g) : a.grownBy c row :=
  ⟨k.os.trans h.os, k.tape.trans h.tape, k.output.trans h.output, Nat.le_trans h.size k.size, fun i hi hne => (k.block i (Nat.lt_of_lt_of_le hi h.size) (fun e => by
    rcases hr with rfl | hr
    · exact hne e
    · have := hr i e.symm
      omega)).trans (h.block i hi hne)⟩
theorem us_newv (w : World) (t : TypeId) (v : Int) (x : Nat) (hv : v = (x : Int)) : US (w.alloc (.cells #[.int .u64 v] t)) (w.heap.size + 1) (some ⟨w.heap.size, 0, none⟩) 1 1 [x] := by
  subst hv
  exact US.ofBlk (l := [x]) (Blk.new w t #[.int .u64 (x : Int)]) 1 rfl _ (by omega)
/-- What carried answers. -/
def CarPost (base g : Nat) (l : List Nat) (w : World) (e : Ending) (w' : World) : Prop :=
  ∃ v' m, e = .returned v' ∧ OwnU w' base 24 v' (dgl (dval l) m) ∧ w.grownBy w' (some g) ∧ (v'.ownBlock = some g ∨ ∀ k, v'.ownBlock = some k → w.heap.size ≤ k) ∧ l.length ≤ m ∧ dval l < 65536 ^ m ∧ (m = l.length ∨ 65536 ^ (m - 1) ≤ dval l)
set_option maxRecDepth 100000 in
set_option maxHeartbeats 1000000 in
theorem carried_any (base g cap : Nat) (l : List Nat) (w : World) (hown : OwnU w base 24 (.slice (some ⟨g, 0, none⟩) l.length cap) l) (hl : 0 < l.length) (hb : ∀ j, l.getD j 0 ≤ 1099511627776) (hlen : l.length ≤ 1000) (hbase : base ≤ w.heap.size) :
    Calls Tryd.prog 80 #[.slice (some ⟨g, 0, none⟩) l.length cap] w (CarPost base g l w) := by
  have hg := hown.own (g := g) rfl
  have hov := ovr_bound l hb
  obtain ⟨n, hn⟩ : ∃ n, n = l.length := ⟨_, rfl⟩
  rw [← hn] at hown ⊢
  have HN := Lib.hid hn
  have hbl : n ≤ 1000 := by omega
  have HB := Lib.hid hb
  have HOV := Lib.hid hov
  clear hb hov hn hl hlen
  go_enter Tryd.func80, Tryd.ntmps80
  go_wp2_with (fail)
  go_loopw [4, 3] (fun i c wr => ∃ j : Nat, j ≤ n ∧ i = .int .i64 j ∧ c = .int .u64 (ovr l j : Int) ∧ OwnU wr base 24 (.slice (some ⟨g, 0, none⟩) n cap) (car l j) ∧ w.grownBy wr (some g)) (fun i _ _ => n - (intOf i).toNat)
  case atStart => exact ⟨0, by omega, rfl, by rw [ovr_zero]; rfl, by rw [car_zero]; exact hown, World.grownBy.refl _ _⟩
  case round =>
    obtain ⟨j, hj, rfl, rfl, hO, hG⟩ := hrel
    have hn := HN.out
    by_cases hlt : j < n
    · have cd := hO.cell (by rw [car_len, hn]) (car_at l (j := j) (by omega))
      have hf : wr.frozen? ⟨g, j, none⟩ = false := by
        have h2 := hO
        unfold OwnU at h2
        rw [show (car l j).length = n by rw [car_len, hn]] at h2
        exact World.ownsRow.frozenAt (size := 1) h2 j
      have hbd := HB.out j
      have hob := HOV.out j (by omega)
      have hdig := ovr_digit l j (by omega)
      have hst := ovr_step l j (by omega)
      have hcs := car_step l (j := j) (by omega)
      obtain ⟨x, hx⟩ : ∃ x, x = l.getD j 0 + ovr l j := ⟨_, rfl⟩
      rw [← hx] at hdig hst
      have hsum : IntKind.u64.wrap (((l.getD j 0 : Nat) : Int) + ((ovr l j : Nat) : Int)) = (x : Int) := by rw [IntKind.wrap_u64]; omega
      obtain ⟨hS1, hS2⟩ := hO.set (by rw [car_len, hn]) j (x % 65536)
      rw [hdig] at hS1 hS2
      rw [hcs] at hS1
      have hxl : x ≤ 2199023255552 := by omega
      have HS1 := Lib.hid hS1
      have HG := Lib.hid (grown_trans hG hS2)
      have HST := Lib.hid hst
      have HDG := Lib.hid hdig
      clear hS1 hS2 hst hdig hcs hO hG hbd hob hx hn
      generalize l.getD j 0 = dj at *
      generalize ovr l j = oj at *
      have j33 : (j : Int) < (n : Int) := by omega
      go_wp2
      go_roundw
      case rel =>
        have e1 : (x : Int) % 65536 = ((dval l / 65536 ^ j % 65536 : Nat) : Int) := by rw [← HDG.out]; omega
        have e2 : (x : Int) / 65536 = ((ovr l (j + 1) : Nat) : Int) := by rw [← HST.out]; omega
        rw [e1, e2]
        exact ⟨j + 1, by omega, by go_num, rfl, HS1.out, HG.out⟩
      case measure => simp [intOf] <;> omega
    · obtain rfl : j = n := by omega
      have hca := car_all l
      rw [← hn] at hca
      rw [hca] at hO
      have hoe := ovr_all l
      rw [← hn] at hoe
      rw [← hoe]
      have HO := Lib.hid hO
      have HG := Lib.hid hG
      clear hca hoe hO hG
      obtain ⟨T, hT⟩ : ∃ T, T = dval l := ⟨_, rfl⟩
      rw [← hT] at HO ⊢
      have HT := Lib.hid hT
      clear hT
      have htl : T / 65536 ^ j ≤ 1099511627776 := by
        have := HOV.out j (by omega)
        have h2 := ovr_all l
        rw [← hn] at h2
        rw [HT.out]
        omega
      clear hn hown
      go_wp2_with (fail)
      go_loopw [0, 3] (fun d c wq => ∃ k : Nat, c = .int .u64 ((T / 65536 ^ (j + k) : Nat) : Int) ∧ T / 65536 ^ (j + k) ≤ 1099511627776 ∧ k ≤ 100 ∧ T / 65536 ^ (j + k) < 65536 ^ (100 - k) ∧ OwnU wq base 24 d (dgl T (j + k)) ∧ (k = 0 ∨ 65536 ^ (j + k - 1) ≤ T) ∧ w.grownBy wq (some g) ∧ (d.ownBlock = some g ∨ ∀ q, d.ownBlock = some q → w.heap.size ≤ q)) (fun _ c _ => (intOf c).toNat)
      case atStart => exact ⟨0, rfl, htl, by omega, by refine Nat.lt_of_le_of_lt htl ?_; exact Nat.lt_of_lt_of_le (show 1099511627776 < 65536 ^ 3 by decide) (Nat.pow_le_pow_right (by omega) (by omega)), HO.out, .inl rfl, HG.out, .inl rfl⟩
      case round =>
        obtain ⟨k, rfl, htk, hk, hp, hO, hm, hG, hown2⟩ := hrel
        clear HO HG
        obtain ⟨c, hc⟩ : ∃ c, c = T / 65536 ^ (j + k) := ⟨_, rfl⟩
        have hnext : T / 65536 ^ (j + (k + 1)) = c / 65536 := by rw [hc, ← Nat.add_assoc, Nat.pow_succ, ← Nat.div_div_eq_div_mul]
        have hdn := dgl_step T (j + k)
        rw [← hc] at htk hp hdn
        rw [← hc]
        by_cases hz : c = 0
        · subst hz
          have hT0 : T < 65536 ^ (j + k) := by
            apply Nat.lt_of_not_le
            intro h
            have := Nat.div_pos h (Nat.pow_pos (by omega))
            omega
          rw [HT.out] at hT0 hm
          rw [HT.out] at hO
          have HO := Lib.hid hO
          have HM := Lib.hid hm
          have HT0 := Lib.hid hT0
          clear hO hm hT0 hdn hnext hc hp
          go_wp2_with (fail)
          go_ret
          refine ⟨_, j + k, rfl, HO.out, hG, hown2, by have := HN.out; omega, HT0.out, ?_⟩
          rcases HM.out with h | h
          · exact .inl (by have := HN.out; omega)
          · exact .inr h
        · have hTle : 65536 ^ (j + k) ≤ T := by
            apply Nat.le_of_not_lt
            intro h
            rw [Nat.div_eq_of_lt h] at hc
            exact hz hc
          have hk1 : k < 100 := by
            apply Nat.lt_of_not_le
            intro h
            obtain rfl : k = 100 := by omega
            rw [Nat.sub_self, Nat.pow_zero] at hp
            omega
          have hp2 : c / 65536 < 65536 ^ (100 - (k + 1)) := by
            rw [Nat.div_lt_iff_lt_mul (by omega), ← Nat.pow_succ, show (100 - (k + 1)).succ = 100 - k by omega]
            exact hp
          have hbig : (dgl T (j + k)).length + 1 ≤ 1000000 := by rw [dgl_len]; omega
          have hcm : (c : Int) % 65536 = ((c % 65536 : Nat) : Int) := by omega
          have HP2 := Lib.hid hp2
          have HTL := Lib.hid hTle
          have HNX := Lib.hid hnext
          have HDN := Lib.hid hdn
          have HBG := Lib.hid hbig
          have HCM := Lib.hid hcm
          have hgs := hG.size
          clear hp2 hTle hnext hdn hbig hcm hp hc hm
          have c0 : (0 : Int) < (c : Int) := by omega
          go_wp2_with (at_builtin; refine wpList_app_ownU rfl (.tmp 27) (.tmp 30) 86 rfl 24 Tryd.underlying86 info_u64 base u0 (dgl T (j + k)) rfl (by exact hO.alloc _) (wr.heap.size + 1) 1 1 (some ⟨wr.heap.size, 0, none⟩) [c % 65536] rfl (by exact us_newv wr 24 _ _ HCM.out) HBG.out (by simp <;> omega) ?_; intro v1 w1 hown1 hg1 hat1)
          go_roundw
          case rel =>
            refine ⟨k + 1, by rw [HNX.out]; rfl, by rw [HNX.out]; omega, by omega, by rw [HNX.out]; exact HP2.out, by rw [← Nat.add_assoc, HDN.out]; exact hown1, .inr (by rw [show j + (k + 1) - 1 = j + k by omega]; exact HTL.out), ?_, ?_⟩
            · exact grown_more (grown_more hG (World.grownBy_alloc wr _ none) (.inr (fun _ h => by cases h))) hg1 hown2
            · rcases hat1 with h | h
              · rw [h]
                exact hown2
              · refine .inr fun q hq => ?_
                rw [h] at hq
                injection hq with hq
                simp at hq
                omega
          case measure => simp [intOf] <;> omega
end Go.Proofs.YtcijaoihcckofaaDoor
namespace Go.Proofs.YtcijaoihcckofaaDoor
set_option linter.unusedVariables false
set_option linter.unusedSimpArgs false
open Go.RowKit
theorem and_digit (x : Nat) (hx : x < 18446744073709551616) : bits .and .u64 (x : Int) 65535 = ((x % 65536 : Nat) : Int) := by
  have h := bits_and_u64_nat x 65535 hx (by omega)
  have e : x &&& 65535 = x % 65536 := Nat.and_two_pow_sub_one_eq_mod x 16
  rw [e] at h
  exact h
theorem shr_digit (n k : Nat) (hn : n < 18446744073709551616) : bits .and .u64 ((n : Int) / 2 ^ (16 * k)) 65535 = ((n / 65536 ^ k % 65536 : Nat) : Int) := by
  have h : (n : Int) / 2 ^ (16 * k) = ((n / 65536 ^ k : Nat) : Int) := by
    rw [show (65536 : Nat) ^ k = 2 ^ (16 * k) by rw [Nat.pow_mul]]
    simp
  rw [h, and_digit _ (Nat.lt_of_le_of_lt (Nat.div_le_self _ _) hn)]
set_option maxRecDepth 100000 in
set_option maxHeartbeats 1000000 in
theorem rsmall_any (n : Nat) (w : World) (hn : n < 18446744073709551616) :
    Calls Tryd.prog 50 #[.int .u64 n] w (NumPost n w) := by
  have hfr := (((Fr.start w).any (ds 0) 33 16 (ds_size 0) (g := w.heap.size) rfl).row (ds 0) 33 (g := w.heap.size + 1) (by simp))
  rw [ds_zero] at hfr
  have HFR := Lib.hid hfr
  clear hfr
  go_enter Tryd.func50, Tryd.ntmps50
  go_wp2_with (fail)
  go_loopw [4] (fun c wr => ∃ k : Nat, k ≤ 4 ∧ c = .int .i64 k ∧ Fr w wr [(w.heap.size + 1, 33, ds (n % 65536 ^ k))] [(w.heap.size, 33, 16)]) (fun c _ => 4 - (intOf c).toNat)
  case atStart => exact ⟨0, by omega, rfl, by have := HFR.out; rw [Nat.pow_zero, Nat.mod_one, ds_zero]; exact this⟩
  case round =>
    obtain ⟨k, hk, rfl, hF⟩ := hrel
    by_cases hlt : k < 4
    · have hB := hF.get (g := w.heap.size + 1) (t := 33) (cs := ds (n % 65536 ^ k)) (by simp)
      have hd : wr.cell? ⟨w.heap.size + 1, k, none⟩ = some (.int .u64 ((n % 65536 ^ k / 65536 ^ k % 65536 : Nat) : Int)) := by rw [hB.cell, ds_get _ (by omega)]
      have hf := hB.frozen k
      have hst := ds_step n k (by omega)
      have HS := Lib.hid hst
      have HF := Lib.hid hF
      clear hst hF hB
      generalize n % 65536 ^ k / 65536 ^ k % 65536 = z at *
      go_wp2
      refine ⟨⟨k + 1, by omega, by go_num, ?_⟩, by simp [intOf]; omega⟩
      rw [shr_digit n k hn, ← HS.out]
      exact HF.out.setHead (by simp <;> omega) (by simp <;> omega) _ _ (by omega)
    · obtain rfl : k = 4 := by omega
      have e16 : n % 65536 ^ 4 = n := Nat.mod_eq_of_lt hn
      rw [e16] at hF
      have kT := hF.get (g := w.heap.size + 1) (t := 33) (cs := ds n) (by simp)
      obtain ⟨old, hold, kR⟩ := hF.old (g := w.heap.size) (t := 33) (n := 16) (by simp)
      have kS := kR.setRow_same (ds n)
      have hB := below_setRow hF.below (show w.heap.size ≤ w.heap.size by omega) (ds n)
      have hold' : old.size = (ds n).size := by rw [hold, ds_size]
      have HF := Lib.hid hF
      have HS := Lib.hid kS
      have HB := Lib.hid hB
      have HO := Lib.hid hold'
      clear hF e16 kS hB hold hold'
      go_wp2_with (first | (refine wpList_load_row rfl 33 (.tmp 3) rfl (w.heap.size + 1) rfl 33 (ds n) (0, 0) _ kT Tryd.underlying33 rfl (info_ds n) ?_) | (refine wpList_store_row rfl 33 (.tmp 2) (.tmp 17) rfl (w.heap.size) (ds n) rfl rfl 33 old kR (info_ds n) HO.out (ds_one _) ?_))
      exact bodyPost_ret (results_cell_row rfl _ _ (w.heap.size) 33 (ds n) (0, 0) _ rfl HS.out Tryd.underlying33 rfl (info_ds n)) rfl ⟨rfl, HB.out⟩
/-- p's digits, while the first k are laid. -/
def pc (k : Nat) : Array Value := ncs .u64 ((List.range 16).map fun i => if i < k then 65535 else 0)
theorem pc_get (k : Nat) {i : Nat} (h : i < 16) : (pc k)[i]? = some (.int .u64 ((if i < k then 65535 else 0 : Nat) : Int)) := by
  rw [pc, ncs_get]
  simp [h]
  rfl
theorem pc_step (k : Nat) (hk : k < 16) : (pc k).setIfInBounds k (.int .u64 65535) = pc (k + 1) := by
  rw [pc, show (Value.int .u64 65535) = .int .u64 ((65535 : Nat) : Int) from rfl, ncs_set, pc]
  congr 1
  apply List.ext_getElem?
  intro i
  rw [List.getElem?_set]
  by_cases hi : i < 16
  · by_cases e : k = i
    · subst e
      simp [hi]
    · have h : i < k + 1 ↔ i < k := by omega
      simp [hi, e, h]
  · have : k ≠ i := by omega
    simp [hi, this]
theorem pc_zero : pc 0 = ds 0 := by kernel_rfl
theorem pc_end : ((pc 16).setIfInBounds 0 (.int .u64 65517)).setIfInBounds 15 (.int .u64 32767) = ds PP := by kernel_rfl
set_option maxRecDepth 100000 in
set_option maxHeartbeats 1000000 in
theorem rprime_any (w : World) : Calls Tryd.prog 55 #[] w (NumPost PP w) := by
  have hfr := (((Fr.start w).any (ds 0) 33 16 (ds_size 0) (g := w.heap.size) rfl).row (ds 0) 33 (g := w.heap.size + 1) (by simp))
  rw [ds_zero] at hfr
  have HFR := Lib.hid hfr
  clear hfr
  go_enter Tryd.func55, Tryd.ntmps55
  go_wp2_with (fail)
  go_loopw [2] (fun c wr => ∃ k : Nat, k ≤ 16 ∧ c = .int .i64 k ∧ Fr w wr [(w.heap.size + 1, 33, pc k)] [(w.heap.size, 33, 16)]) (fun c _ => 16 - (intOf c).toNat)
  case atStart => exact ⟨0, by omega, rfl, by have := HFR.out; rw [pc_zero, ds_zero]; exact this⟩
  case round =>
    obtain ⟨k, hk, rfl, hF⟩ := hrel
    by_cases hlt : k < 16
    · have hB := hF.get (g := w.heap.size + 1) (t := 33) (cs := pc k) (by simp)
      have hd : wr.cell? ⟨w.heap.size + 1, k, none⟩ = some (.int .u64 ((if k < k then 65535 else 0 : Nat) : Int)) := by rw [hB.cell, pc_get _ (by omega)]
      rw [if_neg (Nat.lt_irrefl k)] at hd
      have hf := hB.frozen k
      have hst := pc_step k (by omega)
      have HS := Lib.hid hst
      have HF := Lib.hid hF
      clear hst hF hB
      go_wp2
      refine ⟨⟨k + 1, by omega, by go_num, ?_⟩, by simp [intOf]; omega⟩
      rw [← HS.out]
      exact HF.out.setHead (by simp <;> omega) (by simp <;> omega) _ _ (by omega)
    · obtain rfl : k = 16 := by omega
      have hB := hF.get (g := w.heap.size + 1) (t := 33) (cs := pc 16) (by simp)
      have d0 : wr.cell? ⟨w.heap.size + 1, 0, none⟩ = some (.int .u64 65535) := by rw [hB.cell, pc_get _ (by omega)]; rfl
      have d1 : wr.cell? ⟨w.heap.size + 1, 15, none⟩ = some (.int .u64 65535) := by rw [hB.cell, pc_get _ (by omega)]; rfl
      have f0 := hB.frozen 0
      have f1 := hB.frozen 15
      have hF2 := (hF.setHead (by simp) (by simp) 0 (.int .u64 65517) (by omega)).setHead (by simp) (by simp) 15 (.int .u64 32767) (by omega)
      rw [pc_end] at hF2
      have kT := hF2.get (g := w.heap.size + 1) (t := 33) (cs := ds PP) (by simp)
      obtain ⟨old, hold, kR⟩ := hF2.old (g := w.heap.size) (t := 33) (n := 16) (by simp)
      have kS := kR.setRow_same (ds PP)
      have hB2 := below_setRow hF2.below (show w.heap.size ≤ w.heap.size by omega) (ds PP)
      have hold' : old.size = (ds PP).size := by rw [hold, ds_size]
      have HF := Lib.hid hF
      have HS := Lib.hid kS
      have HB := Lib.hid hB2
      have HO := Lib.hid hold'
      have KT := Lib.hid kT
      have KR := Lib.hid kR
      clear hF hF2 kS hB hB2 hold hold' kT kR
      go_wp2_with (first | (refine wpList_load_row rfl 33 (.tmp 1) rfl (w.heap.size + 1) rfl 33 (ds PP) (0, 0) _ KT.out Tryd.underlying33 rfl (info_ds PP) ?_) | (refine wpList_store_row rfl 33 (.tmp 0) (.tmp 11) rfl (w.heap.size) (ds PP) rfl rfl 33 old KR.out (info_ds PP) HO.out (ds_one _) ?_))
      exact bodyPost_ret (results_cell_row rfl _ _ (w.heap.size) 33 (ds PP) (0, 0) _ rfl HS.out Tryd.underlying33 rfl (info_ds PP)) rfl ⟨rfl, HB.out⟩
end Go.Proofs.YtcijaoihcckofaaDoor
namespace Go.Proofs.YtcijaoihcckofaaDoor
set_option linter.unusedVariables false
set_option linter.unusedSimpArgs false
open Go Go.RowKit
def natOfO : Option Value → Nat
  | some (.int _ n) => n.toNat
  | _ => 0
/-- The number that the slice reads as. -/
def readU (w : World) : Value → Nat
  | .slice (some a) n _ => dval ((List.range n).map fun j => natOfO (w.cell? (a.add j)))
  | _ => 0
def lenU : Value → Nat
  | .slice _ n _ => n
  | _ => 0
theorem readU_eq {w : World} {B n c : Nat} {A : Option Addr} {l : List Nat} (h : US w B A n c l) (hn : 0 < n) : readU w (.slice A n c) = dval l := by
  obtain ⟨b, o, rfl, hb, hc⟩ := h.at_ hn
  show dval _ = dval l
  congr 1
  apply List.ext_getElem?
  intro j
  by_cases hj : j < n
  · have hl : j < l.length := by rw [h.len]; exact hj
    have := hc j l[j] (List.getElem?_eq_getElem hl)
    rw [List.getElem?_eq_getElem hl]
    simp [hj, Addr.add_lit, this, natOfO]
  · rw [List.getElem?_eq_none (by simp; omega), List.getElem?_eq_none (by rw [h.len]; omega)]
/-- 'b[:k]'. -/
theorem run_headU {P : Program} (t e : TypeId) (ht : P.underlying t = some (.slice e)) (he : (P.info? e).map (fun i => (i.zero, i.size, i.bytes)) = some (some (.int .u64 0), 1, 8)) (A : Option Addr) (n c k : Nat) (hk : k ≤ c) (W : World) :
    (Instr.slice t (.slice A n c) none (some (.int .i64 (k : Int))) none).run P W = .ok (.slice A k c) W := by
  have hel : P.elem t = e := by simp [Program.elem, ht]
  obtain ⟨i, hi, hz, hs, hb⟩ := info_parts he
  have hsz : (sizeOf e).run P W = .ok 1 W := by simp [sizeOf, typeInfo, hi, hs]
  rw [run_slice_h W t A n c (by rw [hel]; exact ht) _ _ (by omega) (by omega), hel, hsz]
  simp only [Result.andThen, sliced, Int.toNat_natCast, Nat.zero_mul, Nat.sub_zero, map_add_zero]
  split <;> rfl
theorem US.head {w : World} {B n c : Nat} {A : Option Addr} {l : List Nat} (h : US w B A n c l) {k : Nat} (hk : k ≤ n) : US w B A k c (l.take k) :=
  ⟨by rw [List.length_take, h.len]; omega, by have := h.cap; omega, h.nil_, fun hp => by
    obtain ⟨b, o, e, hb, hc⟩ := h.at_ (by omega)
    refine ⟨b, o, e, hb, fun j x hx => hc j x ?_⟩
    rw [List.getElem?_take] at hx
    split at hx
    · exact hx
    · cases hx⟩
/-- The low sixteen columns, to which the first j of the higher ones are folded. -/
def lowl (l : List Nat) (j : Nat) : List Nat := (List.range 16).map fun t => l.getD t 0 + if t < j then 38 * l.getD (16 + t) 0 else 0
theorem lowl_len (l : List Nat) (j : Nat) : (lowl l j).length = 16 := by simp [lowl]
theorem lowl_zero (l : List Nat) (h : 16 ≤ l.length) : lowl l 0 = l.take 16 := by
  apply List.ext_getElem?
  intro t
  by_cases ht : t < 16
  · simp [lowl, ht, List.getD, List.getElem?_take, List.getElem?_eq_getElem (show t < l.length by omega)]
  · simp [lowl, ht, List.getElem?_take]
theorem lowl_at (l : List Nat) {j : Nat} (h : j < 16) : (lowl l j)[j]? = some (l.getD j 0) := by simp [lowl, h]
theorem lowl_step (l : List Nat) {j : Nat} (h : j < 16) : (lowl l j).set j (l.getD j 0 + 38 * l.getD (16 + j) 0) = lowl l (j + 1) := by
  apply List.ext_getElem?
  intro t
  rw [List.getElem?_set]
  by_cases ht : t < 16
  · by_cases e : j = t
    · subst e
      simp [lowl, h]
    · have e2 : (t < j + 1) = (t < j) := by rw [eq_iff_iff]; omega
      simp [lowl, ht, e, e2]
  · have : j ≠ t := by omega
    simp [lowl, ht, this]
theorem dval_step_set (l : List Nat) {j : Nat} (h : j < 16) : dval (lowl l (j + 1)) = dval (lowl l j) + 65536 ^ j * (38 * l.getD (16 + j) 0) := by
  have hs := dval_set (lowl l j) j (l.getD j 0 + 38 * l.getD (16 + j) 0) (by rw [lowl_len]; exact h)
  rw [lowl_step l h] at hs
  have e : (lowl l j).getD j 0 = l.getD j 0 := by simp [List.getD, lowl_at l h]
  rw [e, Nat.mul_add] at hs
  omega
theorem dval_lowl (l : List Nat) (hl : 16 ≤ l.length) : ∀ j, j ≤ 16 → 16 + j ≤ l.length → dval (lowl l j) = dval (l.take 16) + 38 * dval ((l.drop 16).take j)
  | 0, _, _ => by rw [lowl_zero l hl]; simp [dval]
  | j + 1, h, h2 => by
    rw [dval_step_set l (by omega), dval_lowl l hl j (by omega) (by omega), dval_take_succ (l.drop 16) j (by rw [List.length_drop]; omega)]
    have e : (l.drop 16).getD j 0 = l.getD (16 + j) 0 := by simp [List.getD]
    rw [e, Nat.mul_add]
    have e2 : 65536 ^ j * (38 * l.getD (16 + j) 0) = 38 * (65536 ^ j * l.getD (16 + j) 0) := by ac_rfl
    omega
theorem dval_fold (l : List Nat) {n : Nat} (hn : l.length = n) (h1 : 16 ≤ n) (h2 : n ≤ 32) : dval (lowl l (n - 16)) = dval (l.take 16) + 38 * dval (l.drop 16) := by
  have e : (l.drop 16).take (n - 16) = l.drop 16 := List.take_of_length_le (by rw [List.length_drop]; omega)
  rw [dval_lowl l (by omega) _ (by omega) (by omega), e]
theorem dval_bound : ∀ (l : List Nat) (M : Nat), (∀ j, l.getD j 0 ≤ M) → 65535 * dval l + M ≤ M * 65536 ^ l.length
  | [], M, _ => by simp [dval]
  | x :: r, M, h => by
    have h0 : x ≤ M := by have := h 0; simpa using this
    have ih := dval_bound r M (fun j => by have := h (j + 1); simpa using this)
    show 65535 * (x + 65536 * dval r) + M ≤ M * 65536 ^ (r.length + 1)
    rw [Nat.pow_succ, ← Nat.mul_assoc, Nat.mul_comm _ 65536, Nat.mul_add]
    have e : 65535 * (65536 * dval r) = 65536 * (65535 * dval r) := by ac_rfl
    have h3 : 65535 * x ≤ 65535 * M := Nat.mul_le_mul_left _ h0
    rw [e]
    generalize 65535 * dval r = Z at *
    generalize M * 65536 ^ r.length = Y at *
    omega
theorem pow16 : (65536 : Nat) ^ 16 = 2 * PP + 38 := by decide +kernel
/-- Folding once: the same modulo p, and less. -/
theorem fold_mod (l : List Nat) {n : Nat} (hn : l.length = n) (h1 : 16 ≤ n) (h2 : n ≤ 32) : dval (lowl l (n - 16)) % PP = dval l % PP := by
  rw [dval_fold l hn h1 h2]
  conv => rhs; rw [dval_split l 16, pow16]
  rw [Nat.add_mul]
  generalize dval (l.take 16) = x
  generalize dval (l.drop 16) = y
  rw [show x + (2 * PP * y + 38 * y) = x + 38 * y + PP * (2 * y) by rw [Nat.mul_comm 2 PP, Nat.mul_assoc]; omega, Nat.add_mul_mod_self_left]
theorem small_dval (l : List Nat) (h : ∀ j, l.getD j 0 < 65536) : dval l < 65536 ^ l.length := by
  have h2 := dval_bound l 65535 (fun j => by have := h j; omega)
  generalize 65536 ^ l.length = P at *
  omega
end Go.Proofs.YtcijaoihcckofaaDoor
namespace Go.Proofs.YtcijaoihcckofaaDoor
set_option linter.unusedVariables false
set_option linter.unusedSimpArgs false
open Go.RowKit
theorem less_top {a b k : Nat} (h : a / 65536 ^ (k + 1) = b / 65536 ^ (k + 1)) (hne : a / 65536 ^ k % 65536 ≠ b / 65536 ^ k % 65536) : decide (a / 65536 ^ k % 65536 < b / 65536 ^ k % 65536) = decide (a < b) := by
  rw [Nat.pow_succ, ← Nat.div_div_eq_div_mul, ← Nat.div_div_eq_div_mul] at h
  have h1 : a < b → a / 65536 ^ k ≤ b / 65536 ^ k := fun h => Nat.div_le_div_right (Nat.le_of_lt h)
  have h2 : b ≤ a → b / 65536 ^ k ≤ a / 65536 ^ k := fun h => Nat.div_le_div_right h
  rw [decide_eq_decide]
  constructor
  · intro h3
    apply Nat.lt_of_not_le
    intro h4
    have := h2 h4
    omega
  · intro h3
    have := h1 h3
    omega
theorem less_down {a b k : Nat} (h : a / 65536 ^ (k + 1) = b / 65536 ^ (k + 1)) (he : a / 65536 ^ k % 65536 = b / 65536 ^ k % 65536) : a / 65536 ^ k = b / 65536 ^ k := by
  rw [Nat.pow_succ, ← Nat.div_div_eq_div_mul, ← Nat.div_div_eq_div_mul] at h
  omega
set_option maxRecDepth 100000 in
set_option maxHeartbeats 1000000 in
theorem rless_any (a b : Nat) (w : World) (ha : a < 115792089237316195423570985008687907853269984665640564039457584007913129639936) (hb : b < 115792089237316195423570985008687907853269984665640564039457584007913129639936) :
    Calls Tryd.prog 54 #[.agg (ds a), .agg (ds b)] w (fun e w' => e = .returned (.bool (decide (a < b))) ∧ Below w.heap.size w w') := by
  have hfr := (((Fr.start w).row (ds a) 33 (g := w.heap.size) rfl).row (ds b) 33 (g := w.heap.size + 1) (by simp))
  have htop : a / 65536 ^ 16 = b / 65536 ^ 16 := by rw [Nat.div_eq_of_lt ha, Nat.div_eq_of_lt hb]
  have HFR := Lib.hid hfr
  have HT := Lib.hid htop
  clear hfr htop ha hb
  go_enter Tryd.func54, Tryd.ntmps54
  go_wp2_with (fail)
  go_loopw [5] (fun c wr => ∃ k : Nat, k ≤ 16 ∧ c = .int .i64 ((k : Int) - 1) ∧ a / 65536 ^ k = b / 65536 ^ k ∧ Fr w wr [(w.heap.size + 1, 33, ds b), (w.heap.size, 33, ds a)] []) (fun c _ => (intOf c + 1).toNat)
  case atStart => exact ⟨16, by omega, rfl, HT.out, HFR.out⟩
  case round =>
    obtain ⟨k, hk, rfl, he, hF⟩ := hrel
    cases k with
    | succ k =>
      have hA := hF.get (g := w.heap.size) (t := 33) (cs := ds a) (by simp)
      have hB := hF.get (g := w.heap.size + 1) (t := 33) (cs := ds b) (by simp)
      have hc : wr.cell? ⟨w.heap.size, k, none⟩ = some (.int .u64 ((a / 65536 ^ k % 65536 : Nat) : Int)) := by rw [hA.cell, ds_get _ (by omega)]
      have hd : wr.cell? ⟨w.heap.size + 1, k, none⟩ = some (.int .u64 ((b / 65536 ^ k % 65536 : Nat) : Int)) := by rw [hB.cell, ds_get _ (by omega)]
      have hlt := fun h => less_top (k := k) he h
      have hdn := fun h => less_down (k := k) he h
      have HL := Lib.hid hlt
      have HD := Lib.hid hdn
      have HF := Lib.hid hF
      have e1 : ((k + 1 : Nat) : Int) - 1 = (k : Int) := by omega
      rw [e1]
      clear hlt hdn hF hA hB he
      generalize a / 65536 ^ k % 65536 = x at *
      generalize b / 65536 ^ k % 65536 = y at *
      by_cases hxy : x = y
      · subst hxy
        have HE := Lib.hid (HD.out rfl)
        go_wp2
        go_region
        go_wp2
        exact ⟨⟨k, by omega, rfl, HE.out, HF.out.drew⟩, by simp [intOf] <;> omega⟩
      · have HE := Lib.hid (HL.out hxy)
        go_wp2
        go_region
        go_wp2
        go_region
        go_wp2
        rw [HE.out]
        go_ret
        exact ⟨rfl, HF.out.below.drew.drew⟩
    | zero =>
      rw [Nat.pow_zero, Nat.div_one, Nat.div_one] at he
      have hff : decide (a < b) = false := decide_eq_false (by omega)
      have HFF := Lib.hid hff
      have HF := Lib.hid hF
      clear hff hF he
      go_wp2
      rw [← HFF.out]
      go_ret
      exact ⟨rfl, HF.out.below⟩
end Go.Proofs.YtcijaoihcckofaaDoor
namespace Go.Proofs.YtcijaoihcckofaaDoor
set_option linter.unusedVariables false
set_option linter.unusedSimpArgs false
open Go.RowKit
theorem ds_put {n k x : Nat} (hk : k < 16) (hx : x < 65536) : (ds n).setIfInBounds k (.int .u64 (x : Int)) = ds (putd 65536 n k x) := by
  rw [ds, ncs_set, ds]
  congr 1
  apply List.ext_getElem?
  intro j
  rw [List.getElem?_set]
  by_cases hj : j < 16
  · rw [dg_get (putd 65536 n k x) hj, digit_put (by omega) hx (putd_eq 65536 n k x) j]
    by_cases e : k = j
    · subst e
      rw [if_pos rfl, if_pos rfl, dg_len, if_pos hk]
    · rw [if_neg e, if_neg (fun h => e h.symm), dg_get n hj]
  · have : k ≠ j := by omega
    rw [if_neg this, List.getElem?_eq_none (by rw [dg_len]; omega), List.getElem?_eq_none (by rw [dg_len]; omega)]
theorem d16 : (65536 : Nat) ^ 16 = 115792089237316195423570985008687907853269984665640564039457584007913129639936 := by decide
set_option maxRecDepth 100000 in
set_option maxHeartbeats 1000000 in
theorem rminus_any (a b : Nat) (w : World) (ha : a < 115792089237316195423570985008687907853269984665640564039457584007913129639936) (hb : b ≤ a) :
    Calls Tryd.prog 79 #[.agg (ds a), .agg (ds b)] w (NumPost (a - b) w) := by
  have hfr := (((Fr.start w).row (ds a) 33 (g := w.heap.size) rfl).row (ds b) 33 (g := w.heap.size + 1) (by simp)).any (ds 0) 33 16 (ds_size 0) (g := w.heap.size + 1 + 1) (by simp)
  rw [ds_zero] at hfr
  have HFR := Lib.hid hfr
  have HA := Lib.hid ha
  have HB0 := Lib.hid hb
  clear hfr ha hb
  go_enter Tryd.func79, Tryd.ntmps79
  go_wp2_with (fail)
  go_loopw [6, 5] (fun i q wr => ∃ k v c : Nat, k ≤ 16 ∧ i = .int .i64 k ∧ q = .int .u64 c ∧ TakeAt 65536 a b k v c ∧ Fr w wr [(w.heap.size, 33, ds v), (w.heap.size + 1, 33, ds b)] [(w.heap.size + 1 + 1, 33, 16)]) (fun i _ _ => 16 - (intOf i).toNat)
  case atStart => exact ⟨0, a, 0, by omega, rfl, rfl, take_start _ _ _, HFR.out.sub (by simp) (by simp)⟩
  case round =>
    obtain ⟨k, v, c, hk, rfl, rfl, hT, hF⟩ := hrel
    clear HFR
    by_cases hlt : k < 16
    · have hV := hF.get (g := w.heap.size) (t := 33) (cs := ds v) (by simp)
      have hB := hF.get (g := w.heap.size + 1) (t := 33) (cs := ds b) (by simp)
      have cv : wr.cell? ⟨w.heap.size, k, none⟩ = some (.int .u64 ((v / 65536 ^ k % 65536 : Nat) : Int)) := by rw [hV.cell, ds_get _ hlt]
      have cb : wr.cell? ⟨w.heap.size + 1, k, none⟩ = some (.int .u64 ((b / 65536 ^ k % 65536 : Nat) : Int)) := by rw [hB.cell, ds_get _ hlt]
      have hf := hV.frozen k
      have hc := hT.2.2
      have hx : v / 65536 ^ k % 65536 < 65536 := Nat.mod_lt _ (by omega)
      have hy : b / 65536 ^ k % 65536 < 65536 := Nat.mod_lt _ (by omega)
      have hst := fun n => @take_step 65536 a b k v c n (by omega) hT
      have hpt := fun n h => @ds_put v k n hlt h
      have HST := Lib.hid hst
      have HPT := Lib.hid hpt
      have HF := Lib.hid hF
      clear hst hpt hT hF hV hB
      generalize v / 65536 ^ k % 65536 = x at *
      generalize b / 65536 ^ k % 65536 = y at *
      go_wp2
      go_region
      go_wp2
      go_roundw
      case rel =>
        obtain ⟨n, hn⟩ : ∃ n, n = x + 65536 - y - c := ⟨_, rfl⟩
        have e1 : (x : Int) + 65536 - y - c = (n : Int) := by omega
        have e2 : (1 : Int) - (n : Int) / 65536 = ((1 - n / 65536 : Nat) : Int) := by omega
        have e3 : (n : Int) % 65536 = ((n % 65536 : Nat) : Int) := by omega
        rw [e1, e2, e3]
        refine ⟨k + 1, _, _, by omega, by go_num, rfl, HST.out n (by omega), ?_⟩
        rw [← HPT.out (n % 65536) (by omega)]
        exact (HF.out.drew).setHead (by simp <;> omega) (by simp <;> omega) _ _ (by omega)
      case measure => simp [intOf] <;> omega
    · obtain rfl : k = 16 := by omega
      obtain rfl := take_end hT (by rw [d16]; exact HA.out) HB0.out
      generalize a - b = m at *
      have kT := hF.get (g := w.heap.size) (t := 33) (cs := ds m) (by simp)
      obtain ⟨old, hold, kR⟩ := hF.old (g := w.heap.size + 1 + 1) (t := 33) (n := 16) (by simp)
      have kS := kR.setRow_same (ds m)
      have hB := below_setRow hF.below (show w.heap.size ≤ w.heap.size + 1 + 1 by omega) (ds m)
      have hold' : old.size = (ds m).size := by rw [hold, ds_size]
      have HS := Lib.hid kS
      have HB := Lib.hid hB
      have HO := Lib.hid hold'
      clear hF kS hB hold hold' hT
      go_wp2_with (first | (refine wpList_load_row rfl 33 (.tmp 2) rfl (w.heap.size) rfl 33 (ds m) (0, 0) _ kT Tryd.underlying33 rfl (info_ds m) ?_) | (refine wpList_store_row rfl 33 (.tmp 4) (.tmp 29) rfl (w.heap.size + 1 + 1) (ds m) rfl rfl 33 old kR (info_ds m) HO.out (ds_one _) ?_))
      exact bodyPost_ret (results_cell_row rfl _ _ (w.heap.size + 1 + 1) 33 (ds m) (0, 0) _ rfl HS.out Tryd.underlying33 rfl (info_ds m)) rfl ⟨rfl, HB.out⟩
end Go.Proofs.YtcijaoihcckofaaDoor
namespace Go.Proofs.YtcijaoihcckofaaDoor
set_option linter.unusedVariables false
set_option linter.unusedSimpArgs false
open Go Go.RowKit
/-- Columns that Mod takes. -/
def Cols (n : Nat) (l : List Nat) : Prop := 16 ≤ n ∧ n ≤ 32 ∧ (n = 16 ∨ ∀ j, l.getD j 0 < 65536) ∧ ∀ j, l.getD j 0 ≤ 1048576
theorem cols_low {n : Nat} {l : List Nat} (h : Cols n l) (hl : l.length = n) : ∀ j, (lowl l (n - 16)).getD j 0 ≤ 40894464 := by
  intro j
  by_cases hj : j < 16
  · have h1 := h.2.2.2 j
    have h2 := h.2.2.2 (16 + j)
    simp only [lowl, List.getD, List.getElem?_map, List.getElem?_range hj, Option.map_some, Option.getD_some] at h1 h2 ⊢
    split <;> omega
  · simp [lowl, List.getD, hj]
theorem low_digits {n m : Nat} {l : List Nat} (h : Cols n l) (hl : l.length = n) (hm : 16 ≤ m) (hm2 : m = 16 ∨ 65536 ^ (m - 1) ≤ dval (lowl l (n - 16))) : m ≤ 17 := by
  rcases hm2 with h2 | h2
  · omega
  · have hb := dval_bound (lowl l (n - 16)) 40894464 (cols_low h hl)
    rw [lowl_len] at hb
    have h3 : 65535 * 65536 ^ (m - 1) ≤ 40894464 * 65536 ^ 16 := by
      have := Nat.mul_le_mul_left 65535 h2
      omega
    apply Nat.le_of_not_lt
    intro hlt
    have h4 : 65536 ^ 17 ≤ 65536 ^ (m - 1) := Nat.pow_le_pow_right (by omega) (by omega)
    have h5 : (65536 : Nat) ^ 17 = 65536 * 65536 ^ 16 := by rw [Nat.pow_succ, Nat.mul_comm]
    have hp : 0 < (65536 : Nat) ^ 16 := Nat.pow_pos (by omega)
    generalize (65536 : Nat) ^ 16 = P at *
    omega
/-- Folded and carried, a number and its digits come down. -/
theorem fold_less {n m : Nat} {l : List Nat} (h : Cols n l) (hl : l.length = n) (hn : 16 < n) (hm : 16 ≤ m) (hm2 : m = 16 ∨ 65536 ^ (m - 1) ≤ dval (lowl l (n - 16))) : 64 * dval (lowl l (n - 16)) + m < 64 * dval l + n := by
  have hm17 := low_digits h hl hm hm2
  have hsm : ∀ j, l.getD j 0 < 65536 := by
    rcases h.2.2.1 with h3 | h3
    · omega
    · exact h3
  have hsp := dval_split l 16
  have hf := dval_fold l hl h.1 h.2.1
  have hp : (65536 : Nat) ^ 16 = 115792089237316195423570985008687907853269984665640564039457584007913129639936 := d16
  have ht : dval (l.take 16) < 65536 ^ 16 := by
    have := small_dval (l.take 16) (fun j => by
      by_cases hj : j < 16
      · have := hsm j
        simpa [List.getD, List.getElem?_take, hj] using this
      · simp [List.getD, List.getElem?_take, hj])
    rw [List.length_take] at this
    refine Nat.lt_of_lt_of_le this (Nat.pow_le_pow_right (by omega) (by omega))
  rw [hf] at hm2 ⊢
  rw [hp] at hsp ht
  generalize dval (l.take 16) = x at *
  generalize dval (l.drop 16) = y at *
  rcases Nat.eq_zero_or_pos y with h0 | h0
  · subst h0
    rcases hm2 with h2 | h2
    · omega
    · have h4 : (65536 : Nat) ^ 16 ≤ 65536 ^ (m - 1) ∨ m = 16 := by
        by_cases hmm : m = 16
        · exact .inr hmm
        · exact .inl (Nat.pow_le_pow_right (by omega) (by omega))
      rw [hp] at h4
      rcases h4 with h4 | h4 <;> omega
  · omega
theorem cols_dgl {T m : Nat} (h1 : 16 ≤ m) (h2 : m ≤ 17) : Cols m (dgl T m) := ⟨h1, by omega, .inr (dgl_small T m), fun j => by have := dgl_small T m j; omega⟩
theorem Fr.grow {w W W' : World} {L : List (Nat × TypeId × Array Value)} {R : List (Nat × TypeId × Nat)} {row : Option Nat} (h : Fr w W L R) (hg : W.grownBy W' row) (hL : ∀ p ∈ L, some p.1 ≠ row) (hR : ∀ p ∈ R, some p.1 ≠ row) (hw : ∀ g, row = some g → w.heap.size ≤ g) : Fr w W' L R :=
  ⟨h.below.grown hg h.below.size hw, fun p hp => (h.rows p hp).grown hg (hL p hp), fun p hp => by
    obtain ⟨cs, e, k⟩ := h.some_ p hp
    exact ⟨cs, e, k.grown hg (hR p hp)⟩, h.own⟩
theorem Fr.keep {w W W' : World} {L : List (Nat × TypeId × Array Value)} {R : List (Nat × TypeId × Nat)} {B : Nat} (h : Fr w W L R) (hb : Below B W W') (hB : w.heap.size ≤ B) (hL : ∀ p ∈ L, p.1 < B) (hR : ∀ p ∈ R, p.1 < B) : Fr w W' L R :=
  ⟨h.below.trans (hb.mono hB), fun p hp => (h.rows p hp).below hb (hL p hp), fun p hp => by
    obtain ⟨cs, e, k⟩ := h.some_ p hp
    exact ⟨cs, e, k.below hb (hR p hp)⟩, h.own⟩
theorem ds_dgl (T : Nat) : ds T = cs64 (dgl T 16) := rfl
theorem splice_ds (x T : Nat) : (splice (ds x).toList 0 ((dgl T 16).map (nc .u64))).toArray = ds T := by
  have h1 : (ds x).toList.length = 16 := by rw [Array.length_toList, ds_size]
  have h2 : ((dgl T 16).map (nc .u64)).length = 16 := by rw [List.length_map, dgl_len]
  unfold splice
  rw [h2, List.take_zero, List.nil_append, List.drop_eq_nil_of_le (by omega), List.append_nil]
  rfl
theorem top_mod {t h : Nat} (hh : h = t / 65536 ^ 15) : t = putd 65536 t 15 (h % 32768) + 57896044618658097711785492504343953926634992332820282019728792003956564819968 * (h / 32768) ∨ ¬ t < 65536 ^ 16 := by
  by_cases ht : t < 65536 ^ 16
  · left
    have hp := putd_eq 65536 t 15 (h % 32768)
    have e : (65536 : Nat) ^ 15 = 1766847064778384329583297500742918515827483896875618958121606201292619776 := by decide
    rw [← hh] at hp
    rw [e] at hp hh
    have h1 : h < 65536 := by rw [d16] at ht; omega
    rw [Nat.mod_eq_of_lt h1] at hp
    omega
  · exact .inr ht
theorem dgl_at0 (T : Nat) : (dgl T 16)[0]? = some (T % 65536) := by simp [dgl]
theorem PP_255 : PP + 19 = 57896044618658097711785492504343953926634992332820282019728792003956564819968 := by rw [PP_eq]
/-- 2^255 is 19: what stands above is folded. -/
theorem top_fold {t h t1 : Nat} (hh : h = t / 65536 ^ 15) (ht : t < 65536 ^ 16) (hb : 32767 < h) (hl : h < 65536) (h1 : t1 = putd 65536 t 15 (h % 32768)) : t1 < 65536 ^ 16 ∧ (t1 + 19 * (h / 32768)) < 65536 ^ 16 ∧ (t1 + 19 * (h / 32768)) % PP = t % PP ∧ t1 + 19 * (h / 32768) < t := by
  have e : t = t1 + 57896044618658097711785492504343953926634992332820282019728792003956564819968 * (h / 32768) := by
    rcases top_mod hh with e | e
    · rw [h1]
      exact e
    · exact absurd ht e
  clear h1 hh
  have h3 : h / 32768 = 1 := by omega
  have hp := PP_255
  rw [d16] at ht ⊢
  rw [h3] at e ⊢
  clear h3 hb hl
  have e2 : t = (t1 + 19 * 1) + PP := by omega
  refine ⟨by omega, by omega, ?_, by omega⟩
  rw [e2, Nat.add_mod_right]
theorem OwnU.frozen {w : World} {base g n cap : Nat} {e : TypeId} {l : List Nat} (h : OwnU w base e (.slice (some ⟨g, 0, none⟩) n cap) l) (hn : n = l.length) (j : Nat) : w.frozen? ⟨g, j, none⟩ = false := by
  subst hn
  exact World.ownsRow.frozenAt (size := 1) h j
theorem us_ds {W : World} {g t : Nat} (h : Blk W g 33 (ds t)) {B : Nat} (hB : g < B) : US W B (some ⟨g, 0, none⟩) 16 16 (dgl t 16) := by
  rw [ds_dgl] at h
  exact US.ofBlk h 16 (by rw [dgl_len]) B hB
theorem read_ds {W : World} {g t : Nat} (h : Blk W g 33 (ds t)) (ht : t < 65536 ^ 16) : readU W (.slice (some ⟨g, 0, none⟩) 16 16) = t := by
  rw [readU_eq (us_ds h h.lt) (by omega), dval_dgl, Nat.mod_eq_of_lt ht]
/-- What Mod is asked of a slice of columns, and answers. -/
def ModOf (n : Nat) (l : List Nat) : Prop := ∀ (A : Option Addr) (c B : Nat) (w : World), US w B A n c l → B ≤ w.heap.size → Calls Tryd.prog 77 #[.slice A n c] w (NumPost (dval l % PP) w)
set_option maxRecDepth 100000 in
set_option maxHeartbeats 4000000 in
theorem mod_gen (norm : Bool) (hrec : norm = false → ∀ T, ModOf 17 (dgl T 17)) (n : Nat) (l : List Nat) (hcol : Cols n l) (hnorm : norm = true → ∀ j, l.getD j 0 < 65536) : ModOf n l := by
  intro A c B w hl hB
  have hfr := (Fr.start w).any (ds 0) 33 16 (ds_size 0) (g := w.heap.size) rfl
  rw [ds_zero] at hfr
  have HFR := Lib.hid hfr
  obtain ⟨V, hV⟩ : ∃ V, V = dval l % PP := ⟨_, rfl⟩
  rw [← hV]
  have HV := Lib.hid hV
  have HC := Lib.hid hcol
  have HN := Lib.hid hnorm
  have HREC := Lib.hid hrec
  clear hfr hV hcol hnorm hrec
  have hl2 := (hl.alloc hB (.cells #[Value.int .u64 0, Value.int .u64 0, Value.int .u64 0, Value.int .u64 0, Value.int .u64 0, Value.int .u64 0, Value.int .u64 0, Value.int .u64 0, Value.int .u64 0, Value.int .u64 0, Value.int .u64 0, Value.int .u64 0, Value.int .u64 0, Value.int .u64 0, Value.int .u64 0, Value.int .u64 0] 33)).more (B' := w.heap.size + 1) (by omega)
  have HL := Lib.hid hl2
  clear hl hl2
  go_enter Tryd.func77, Tryd.ntmps77
  go_wp2_with (fail)
  go_loopw [0] (fun d wr => ∃ A n c l, d = .slice A n c ∧ US wr wr.heap.size A n c l ∧ Cols n l ∧ dval l % PP = V ∧ (norm = true → ∀ j, l.getD j 0 < 65536) ∧ Fr w wr [] [(w.heap.size, 33, 16)]) (fun d wr => 64 * readU wr d + lenU d)
  case atStart => exact ⟨A, n, c, l, rfl, HL.out.more (by simp), HC.out, HV.out.symm, HN.out, HFR.out⟩
  case round =>
    obtain ⟨A, n, c, l, rfl, hU, hC, hM, hN, hF⟩ := hrel
    clear HFR HL HC HN
    by_cases hgt : 16 < n
    · have hlen := hU.len
      have hcap := hU.cap
      have hread := readU_eq hU (by omega)
      have hhead := fun W => run_headU (P := Tryd.prog) 86 24 Tryd.underlying86 info_u64 A n c 16 (by omega) W
      rw [show ((16 : Nat) : Int) = 16 from rfl] at hhead
      have ngt : (16 : Int) < (n : Int) := by omega
      have hU16 := hU.head (k := 16) (by omega)
      have HREAD := Lib.hid hread
      have HM := Lib.hid hM
      have HC := Lib.hid hC
      have HN2 := Lib.hid hN
      have HF := Lib.hid hF
      have HUU := Lib.hid hU
      clear hread hM hC hN hF hU
      go_wp2_with (at_builtin; refine wpList_app_ownU rfl (.tmp 11) (.tmp 13) 86 rfl 24 Tryd.underlying86 info_u64 wr.heap.size (.slice none 0 0) [] rfl (OwnU.nil _ _ _) wr.heap.size 16 c A (l.take 16) rfl hU16 (by simp) (Nat.le_refl _) ?_; intro v1 w1 hown1 hg1 hat1)
      rw [List.nil_append, ← lowl_zero l (by omega)] at hown1
      obtain ⟨gl, cap, rfl, hgl1, hgl2⟩ := hown1.slice (by rw [lowl_len]; omega)
      rw [lowl_len] at hown1 ⊢
      have hU1 := HUU.out.grown hg1 (Nat.le_refl _) (by intro g h; cases h)
      have hF1 := HF.out.grow hg1 (by simp) (by simp [Value.ownBlock]) (by intro g h; cases h)
      have hres : w.heap.size < wr.heap.size := by obtain ⟨cs, _, k⟩ := HF.out.old (g := w.heap.size) (t := 33) (n := 16) (by simp); exact k.lt
      have hsw1 := hg1.size
      have hsw0 := HF.out.size
      obtain ⟨b0, hb0⟩ : ∃ b0, b0 = wr.heap.size := ⟨_, rfl⟩
      rw [← hb0] at hown1 hgl1 hU1 hres hsw1 hsw0
      have HU1 := Lib.hid hU1
      have HF1 := Lib.hid hF1
      have HO1 := Lib.hid hown1
      clear hU1 hF1 hown1 hg1 hat1 hhead hU16
      try rw [decide_eq_true ngt]
      go_loopw [3, 4] (fun v i wq => ∃ j : Nat, j ≤ n - 16 ∧ i = .int .i64 (16 + (j : Int)) ∧ v = .slice (some ⟨gl, 0, none⟩) 16 cap ∧ OwnU wq b0 24 (.slice (some ⟨gl, 0, none⟩) 16 cap) (lowl l j) ∧ US wq b0 A n c l ∧ b0 ≤ wq.heap.size ∧ Fr w wq [] [(w.heap.size, 33, 16)]) (fun _ i _ => n - (intOf i).toNat)
      case atStart => exact ⟨0, by omega, rfl, rfl, HO1.out, HU1.out, hsw1, HF1.out⟩
      case round =>
        obtain ⟨j, hj, rfl, rfl, hO, hU, hwq, hF⟩ := hrel
        clear HO1 HU1 HF1
        by_cases hlt : j < n - 16
        · have hC := HC.out
          have cl := hO.cell (by rw [lowl_len]) (lowl_at l (j := j) (by have := hC.2.1; omega))
          have hf : wr.frozen? ⟨gl, j, none⟩ = false := by have h2 := hO; unfold OwnU at h2; rw [lowl_len] at h2; exact World.ownsRow.frozenAt (size := 1) h2 j
          obtain ⟨b, o, x, rfl, hbb, hx, cx⟩ := hU.at' (k := 16 + j) (by omega)
          have hxd : l.getD (16 + j) 0 = x := by simp [List.getD, hx]
          have hxb := hC.2.2.2 (16 + j)
          rw [hxd] at hxb
          have hyb := hC.2.2.2 j
          have hst := lowl_step l (j := j) (by have := hC.2.1; omega)
          rw [hxd] at hst
          obtain ⟨hS1, hS2⟩ := hO.set (by rw [lowl_len]) j (l.getD j 0 + 38 * x)
          rw [hst] at hS1
          have hU2 := hU.grown hS2 hwq (by intro g h; injection h with h; omega)
          have hF2 := hF.grow hS2 (by simp) (by simp <;> omega) (by intro g h; injection h with h; omega)
          have hsz2 := hS2.size
          have HS1 := Lib.hid hS1
          have HU2 := Lib.hid hU2
          have HF2 := Lib.hid hF2
          have hj16 : j < 16 := by have := hC.2.1; omega
          clear hS1 hS2 hU2 hF2 hO hU hF hst hxd hx hC
          generalize l.getD j 0 = y at *
          have hsum : IntKind.u64.wrap ((y : Int) + 38 * (x : Int)) = ((y + 38 * x : Nat) : Int) := by rw [IntKind.wrap_u64]; omega
          have b2 : (16 : Int) + (j : Int) < (n : Int) := by omega
          have b1 : (0 : Int) ≤ 16 + (j : Int) := by omega
          have bw : IntKind.i64.wrap ((16 : Int) + (j : Int) - 16) = (j : Int) := by rw [IntKind.wrap_i64]; omega
          have hm38 : IntKind.u64.wrap (38 * (x : Int)) = 38 * (x : Int) := by rw [IntKind.wrap_u64]; omega
          have b3 : ((16 : Int) + (j : Int)).toNat = 16 + j := by omega
          have j16 : (j : Int) < 16 := by omega
          have hne : gl ≠ b := by omega
          go_wp2_with (fail)
          refine wp_region_held_drew (S := fun W => W.cell? ⟨b, o + (16 + j), none⟩ = some (.int .u64 (x : Int))) (by kernel_rfl) ?_ (fun hHeld => ?_)
          · exact cx
          refine wpAnyH_take (i := 0) (v := ?_) rfl (by kernel_rfl) (by kernel_rfl) (by kernel_rfl) (fun _ _ _ h => h) (Or.inl ⟨by rfl, ?_⟩) hHeld ?_
          rotate_left
          · (intro W hSw; (try dsimp only at hSw); (try simp only [List.getElem_toArray, List.getElem_cons_succ, List.getElem_cons_zero]); go_simp; try with_reducible rfl)
          try simp only [Act.put, List.getElem_toArray, List.getElem_cons_succ, List.getElem_cons_zero, List.setIfInBounds_toArray, List.set_cons_zero, List.set_cons_succ]
          refine wpAnyH_take (i := 1) (v := ?_) rfl (by kernel_rfl) (by kernel_rfl) (by kernel_rfl) (fun _ _ _ h => h) (Or.inl ⟨by rfl, ?_⟩) hHeld ?_
          rotate_left
          · (intro W hSw; (try dsimp only at hSw); (try simp only [List.getElem_toArray, List.getElem_cons_succ, List.getElem_cons_zero]); go_simp; try with_reducible rfl)
          try simp only [Act.put, List.getElem_toArray, List.getElem_cons_succ, List.getElem_cons_zero, List.setIfInBounds_toArray, List.set_cons_zero, List.set_cons_succ]
          refine wpAnyH_take (i := 2) (v := ?_) rfl (by kernel_rfl) (by kernel_rfl) (by kernel_rfl) (fun _ _ _ h => h) (Or.inl ⟨by rfl, ?_⟩) hHeld ?_
          rotate_left
          · (intro W hSw; (try dsimp only at hSw); (try simp only [List.getElem_toArray, List.getElem_cons_succ, List.getElem_cons_zero]); go_simp; try with_reducible rfl)
          try simp only [Act.put, List.getElem_toArray, List.getElem_cons_succ, List.getElem_cons_zero, List.setIfInBounds_toArray, List.set_cons_zero, List.set_cons_succ]
          refine wpAnyH_take (i := 3) (v := ?_) rfl (by kernel_rfl) (by kernel_rfl) (by kernel_rfl) (fun _ _ _ h => h) (Or.inl ⟨by rfl, ?_⟩) hHeld ?_
          rotate_left
          · (intro W hSw; (try dsimp only at hSw); (try simp only [List.getElem_toArray, List.getElem_cons_succ, List.getElem_cons_zero]); go_simp; try with_reducible rfl)
          try simp only [Act.put, List.getElem_toArray, List.getElem_cons_succ, List.getElem_cons_zero, List.setIfInBounds_toArray, List.set_cons_zero, List.set_cons_succ]
          refine wpAnyH_take (i := 4) (v := ?_) rfl (by kernel_rfl) (by kernel_rfl) (by kernel_rfl) (fun _ _ _ h => h) (Or.inl ⟨by rfl, ?_⟩) hHeld ?_
          rotate_left
          · (intro W hSw; (try dsimp only at hSw); (try simp only [List.getElem_toArray, List.getElem_cons_succ, List.getElem_cons_zero]); go_simp; try with_reducible rfl)
          try simp only [Act.put, List.getElem_toArray, List.getElem_cons_succ, List.getElem_cons_zero, List.setIfInBounds_toArray, List.set_cons_zero, List.set_cons_succ]
          refine wpAnyH_take (i := 5) (v := ?_) rfl (by kernel_rfl) (by kernel_rfl) (by kernel_rfl) (fun _ _ _ h => h) (Or.inl ⟨by rfl, ?_⟩) hHeld ?_
          rotate_left
          · (intro W hSw; (try dsimp only at hSw); (try simp only [List.getElem_toArray, List.getElem_cons_succ, List.getElem_cons_zero]); go_simp; try with_reducible rfl)
          try simp only [Act.put, List.getElem_toArray, List.getElem_cons_succ, List.getElem_cons_zero, List.setIfInBounds_toArray, List.set_cons_zero, List.set_cons_succ]
          refine wpAnyH_take (i := 6) (v := ?_) rfl (by kernel_rfl) (by kernel_rfl) (by kernel_rfl) (fun _ _ _ h => h) (Or.inl ⟨by rfl, ?_⟩) hHeld ?_
          rotate_left
          · (intro W hSw; (try dsimp only at hSw); (try simp only [List.getElem_toArray, List.getElem_cons_succ, List.getElem_cons_zero]); go_simp; try with_reducible rfl)
          try simp only [Act.put, List.getElem_toArray, List.getElem_cons_succ, List.getElem_cons_zero, List.setIfInBounds_toArray, List.set_cons_zero, List.set_cons_succ]
          refine wpAnyH_take (i := 8) (v := ?_) rfl (by kernel_rfl) (by kernel_rfl) (by kernel_rfl) (fun _ _ _ h => h) (Or.inl ⟨by rfl, ?_⟩) hHeld ?_
          rotate_left
          · (intro W hSw; (try dsimp only at hSw); (try simp only [List.getElem_toArray, List.getElem_cons_succ, List.getElem_cons_zero]); go_simp; try with_reducible rfl)
          try simp only [Act.put, List.getElem_toArray, List.getElem_cons_succ, List.getElem_cons_zero, List.setIfInBounds_toArray, List.set_cons_zero, List.set_cons_succ]
          refine wpAnyH_take (i := 9) (v := ?_) rfl (by kernel_rfl) (by kernel_rfl) (by kernel_rfl) (fun _ _ _ h => h) (Or.inl ⟨by rfl, ?_⟩) hHeld ?_
          rotate_left
          · (intro W hSw; (try dsimp only at hSw); (try simp only [List.getElem_toArray, List.getElem_cons_succ, List.getElem_cons_zero]); go_simp; try with_reducible rfl)
          try simp only [Act.put, List.getElem_toArray, List.getElem_cons_succ, List.getElem_cons_zero, List.setIfInBounds_toArray, List.set_cons_zero, List.set_cons_succ]
          refine wpAnyH_take (i := 10) (v := ?_) rfl (by kernel_rfl) (by kernel_rfl) (by kernel_rfl) (fun _ _ _ h => h) (Or.inl ⟨by rfl, ?_⟩) hHeld ?_
          rotate_left
          · (intro W hSw; (try dsimp only at hSw); (try simp only [List.getElem_toArray, List.getElem_cons_succ, List.getElem_cons_zero]); go_simp; try with_reducible rfl)
          try simp only [Act.put, List.getElem_toArray, List.getElem_cons_succ, List.getElem_cons_zero, List.setIfInBounds_toArray, List.set_cons_zero, List.set_cons_succ]
          refine wpAnyH_take (i := 11) (v := ?_) rfl (by kernel_rfl) (by kernel_rfl) (by kernel_rfl) (fun _ _ _ h => h) (Or.inl ⟨by rfl, ?_⟩) hHeld ?_
          rotate_left
          · (intro W hSw; (try dsimp only at hSw); (try simp only [List.getElem_toArray, List.getElem_cons_succ, List.getElem_cons_zero]); go_simp; try with_reducible rfl)
          try simp only [Act.put, List.getElem_toArray, List.getElem_cons_succ, List.getElem_cons_zero, List.setIfInBounds_toArray, List.set_cons_zero, List.set_cons_succ]
          refine wpAnyH_take (i := 12) (v := ?_) rfl (by kernel_rfl) (by kernel_rfl) (by kernel_rfl) (fun _ _ _ h => h) (Or.inl ⟨by rfl, ?_⟩) hHeld ?_
          rotate_left
          · (intro W hSw; (try dsimp only at hSw); (try simp only [List.getElem_toArray, List.getElem_cons_succ, List.getElem_cons_zero]); go_simp; try with_reducible rfl)
          try simp only [Act.put, List.getElem_toArray, List.getElem_cons_succ, List.getElem_cons_zero, List.setIfInBounds_toArray, List.set_cons_zero, List.set_cons_succ]
          refine wpAnyH_ready (rs := [7]) (by kernel_rfl) (by simp) (AllReadyH.cons rfl (fun K hK => ?_) AllReadyH.nil)
          have h0 := hHeld
          clear hHeld
          try simp only [List.getElem_toArray, List.getElem_cons_succ, List.getElem_cons_zero]
          go_simp
          refine hK.out _ _ (h0) (fun hHeld => ?_)
          clear hK K h0
          try simp only [Act.put, List.getElem_toArray, List.getElem_cons_succ, List.getElem_cons_zero, List.setIfInBounds_toArray, List.set_cons_zero, List.set_cons_succ]
          refine wpAnyH_take (i := 13) (v := ?_) rfl (by kernel_rfl) (by kernel_rfl) (by kernel_rfl) (fun _ _ _ h => h) (Or.inl ⟨by rfl, ?_⟩) hHeld ?_
          rotate_left
          · (intro W hSw; (try dsimp only at hSw); (try simp only [List.getElem_toArray, List.getElem_cons_succ, List.getElem_cons_zero]); go_simp; try with_reducible rfl)
          try simp only [Act.put, List.getElem_toArray, List.getElem_cons_succ, List.getElem_cons_zero, List.setIfInBounds_toArray, List.set_cons_zero, List.set_cons_succ]
          refine wpAnyH_take (i := 14) (v := ?_) rfl (by kernel_rfl) (by kernel_rfl) (by kernel_rfl) (fun _ _ _ h => h) (Or.inl ⟨by rfl, ?_⟩) hHeld ?_
          rotate_left
          · (intro W hSw; (try dsimp only at hSw); (try simp only [List.getElem_toArray, List.getElem_cons_succ, List.getElem_cons_zero]); go_simp; try with_reducible rfl)
          try simp only [Act.put, List.getElem_toArray, List.getElem_cons_succ, List.getElem_cons_zero, List.setIfInBounds_toArray, List.set_cons_zero, List.set_cons_succ]
          refine wpAnyH_ready (rs := [15]) (by kernel_rfl) (by simp) (AllReadyH.cons rfl (fun K hK => ?_) AllReadyH.nil)
          have h0 := hHeld
          clear hHeld
          try simp only [List.getElem_toArray, List.getElem_cons_succ, List.getElem_cons_zero]
          go_simp
          refine hK.out _ _ ((World.cell?_setCell_far _ _ _ _ (by simp <;> omega)).trans h0) (fun hHeld => ?_)
          clear hK K h0
          try simp only [Act.put, List.getElem_toArray, List.getElem_cons_succ, List.getElem_cons_zero, List.setIfInBounds_toArray, List.set_cons_zero, List.set_cons_succ]
          refine wpAnyH_done (by kernel_rfl) ?_ _
          go_wp2_with (fail)
          go_roundw
          case rel => exact ⟨j + 1, by omega, by go_num, rfl, HS1.out, HU2.out.drew, by simp at hsz2 ⊢; omega, HF2.out.drew⟩
          case measure => simp [intOf] <;> omega
        · obtain rfl : j = n - 16 := by omega
          have hcar := carried_any b0 gl cap (lowl l (n - 16)) wr (by rw [lowl_len]; exact hO) (by rw [lowl_len]; omega) (fun j => by have := cols_low HC.out hlen j; omega) (by rw [lowl_len]; omega) hwq
          rw [lowl_len] at hcar
          have HCAR := Lib.hid hcar
          have HF := Lib.hid hF
          have hsq := hF.size
          have eni : (16 : Int) + ((n - 16 : Nat) : Int) = (n : Int) := by omega
          rw [eni]
          clear hcar hF hO hU eni
          go_wp2_with (fail)
          refine HCAR.out.mono ?_
          rintro e w3 ⟨v', m, rfl, hown3, hg3, hown4, hm16, hTm, hm2⟩
          rw [lowl_len] at hm16 hm2
          have hF3 := HF.out.grow hg3 (by simp) (by simp <;> omega) (by intro g h; injection h with h; omega)
          obtain ⟨A3, n3, c3, rfl, hU3, _⟩ := hown3.form
          have hl3 := hU3.len
          rw [dgl_len] at hl3
          subst hl3
          have hm17 := low_digits HC.out hlen hm16 hm2
          have hlt2 := fold_less HC.out hlen (by omega) hm16 hm2
          have hfm := fold_mod l hlen HC.out.1 HC.out.2.1
          have hdd : dval (dgl (dval (lowl l (n - 16))) m) = dval (lowl l (n - 16)) := by rw [dval_dgl, Nat.mod_eq_of_lt hTm]
          have hr3 := readU_eq hU3 (by omega)
          rw [hdd] at hr3
          have HU3 := Lib.hid hU3
          have HF3 := Lib.hid hF3
          have HL2 := Lib.hid hlt2
          have HFM := Lib.hid hfm
          have HDD := Lib.hid hdd
          have HR3 := Lib.hid hr3
          clear hown3 hg3 hown4 hTm hm2 hU3 hF3 hlt2 hfm hdd hr3
          go_wp2_with (fail)
          go_roundw
          case rel => exact ⟨A3, m, c3, _, rfl, HU3.out, cols_dgl hm16 hm17, by rw [HDD.out, HFM.out, HM.out], fun _ => dgl_small _ _, HF3.out⟩
          case measure =>
            show 64 * readU w3 (.slice A3 m c3) + m < 64 * readU _ (.slice A n c) + n
            rw [HR3.out, HREAD.out]
            exact HL2.out
    · obtain rfl : n = 16 := by have := hC.1; omega
      have hlen := hU.len
      have hTb := dval_bound l 1048576 hC.2.2.2
      rw [hlen] at hTb
      obtain ⟨T, hT⟩ : ∃ T, T = dval l := ⟨_, rfl⟩
      have hns : norm = true → T < 65536 ^ 16 := fun h => by rw [hT]; have := small_dval l (hN h); rwa [hlen] at this
      have HC := Lib.hid hC
      have HM := Lib.hid hM
      have HNS := Lib.hid hns
      have HF := Lib.hid hF
      have HT := Lib.hid hT
      have HTB := Lib.hid hTb
      have HUU := Lib.hid hU
      clear hC hM hN hns hF hT hTb hgt
      go_wp2_with (at_builtin; refine wpList_app_ownU rfl (.const (.slice none 0 0)) (.tmp 49) 86 rfl 24 Tryd.underlying86 info_u64 wr.heap.size (.slice none 0 0) [] rfl (OwnU.nil _ _ _) wr.heap.size 16 c A l rfl HUU.out (by simp) (Nat.le_refl _) ?_; intro v1 w1 hown1 hg1 hat1)
      rw [List.nil_append] at hown1
      obtain ⟨gc, cap, rfl, hgc1, hgc2⟩ := hown1.slice (by rw [hlen]; omega)
      have hsw1 := hg1.size
      have hF1 := HF.out.grow hg1 (by simp) (by simp [Value.ownBlock]) (by intro g h; cases h)
      have hres : w.heap.size < wr.heap.size := by obtain ⟨cs, _, k⟩ := HF.out.old (g := w.heap.size) (t := 33) (n := 16) (by simp); exact k.lt
      have hsw0 := HF.out.size
      have hcar := carried_any wr.heap.size gc cap l w1 hown1 (by rw [hlen]; omega) (fun j => by have := HC.out.2.2.2 j; omega) (by rw [hlen]; omega) hsw1
      rw [hlen] at hcar ⊢
      have HCAR := Lib.hid hcar
      have HF1 := Lib.hid hF1
      clear hcar hF1 hown1 hg1 hat1 HF
      refine HCAR.out.mono ?_
      rintro e w3 ⟨v', m, rfl, hown3, hg3, hown4, hm16, hTm, hm2⟩
      rw [hlen] at hm16 hm2
      rw [← HT.out] at hown3 hTm hm2
      have hF3 := HF1.out.grow hg3 (by simp) (by simp <;> omega) (by intro g h; injection h with h; omega)
      obtain ⟨A3, n3, c3, rfl, hU3, _⟩ := hown3.form
      have hl3 := hU3.len
      rw [dgl_len] at hl3
      subst hl3
      have hm17 : m ≤ 17 := by
        rcases hm2 with h | h
        · omega
        · apply Nat.le_of_not_lt
          intro hlt
          have h4 : 65536 ^ 17 ≤ 65536 ^ (m - 1) := Nat.pow_le_pow_right (by omega) (by omega)
          have h5 : (65536 : Nat) ^ 17 = 65536 * 65536 ^ 16 := by rw [Nat.pow_succ, Nat.mul_comm]
          have h6 := HTB.out
          rw [← HT.out] at h6
          have hp : 0 < (65536 : Nat) ^ 16 := Nat.pow_pos (by omega)
          generalize (65536 : Nat) ^ 16 = P at *
          omega
      have HU3 := Lib.hid hU3
      have HF3 := Lib.hid hF3
      have hdd : dval (dgl T m) = T := by rw [dval_dgl, Nat.mod_eq_of_lt hTm]
      have HDD := Lib.hid hdd
      have HTM := Lib.hid hTm
      have hMT := HM.out
      rw [← HT.out] at hMT
      have HMT := Lib.hid hMT
      have hm2' := hm2
      have HM2 := Lib.hid hm2'
      clear hown3 hg3 hown4 hTm hm2 hm2' hU3 hF3 hdd hMT HF1 HCAR HM HTB HUU HC
      go_wp2_with (fail)
      go_loopw [54] (fun _ wq => wq = w3) (fun _ _ => 0)
      case atStart => rfl
      case round =>
        obtain rfl : wr = w3 := hrel
        rcases (show m = 17 ∨ m = 16 by omega) with rfl | rfl
        · have hnf : norm = false := by
            cases hb : norm with
            | false => rfl
            | true =>
              have h1 := HNS.out hb
              rcases HM2.out with h2 | h2
              · omega
              · exact absurd h1 (by omega)
          have hmod := HREC.out hnf T A3 c3 wr.heap.size wr HU3.out (Nat.le_refl _)
          rw [HDD.out, HMT.out] at hmod
          have HMOD := Lib.hid hmod
          clear hmod hnf
          go_wp2_with (fail)
          refine HMOD.out.mono ?_
          rintro e v2 ⟨rfl, hb⟩
          have hf := HF3.out.ext hb
          obtain ⟨old, hold, kR⟩ := hf.old (g := w.heap.size) (t := 33) (n := 16) (by simp)
          have kS := kR.setRow_same (ds V)
          have hB2 := below_setRow hf.below (Nat.le_refl _) (ds V)
          have hold' : old.size = (ds V).size := by rw [hold, ds_size]
          have HS := Lib.hid kS
          have HB2 := Lib.hid hB2
          have HO := Lib.hid hold'
          clear hb hf kS hB2 hold hold'
          go_wp2_with (first | (refine wpList_store_row rfl 33 (.tmp 2) (.tmp 56) rfl (w.heap.size) (ds V) rfl rfl 33 old kR (info_ds V) HO.out (ds_one _) ?_))
          exact bodyPost_ret (results_cell_row rfl _ _ (w.heap.size) 33 (ds V) (0, 0) _ rfl HS.out Tryd.underlying33 rfl (info_ds V)) rfl ⟨rfl, HB2.out⟩
        · have hTm := HTM.out
          obtain ⟨ad, had⟩ : ∃ ad, A3 = some ad := by obtain ⟨b, o, e, _⟩ := HU3.out.at_ (by omega); exact ⟨_, e⟩
          subst had
          have hres3 : w.heap.size < wr.heap.size := by obtain ⟨cs, _, k⟩ := HF3.out.old (g := w.heap.size) (t := 33) (n := 16) (by simp); exact k.lt
          have hsw3 := HF3.out.size
          have hz := (Blk.new wr 33 (ds 0))
          rw [ds_zero] at hz
          have hz2 : (wr.alloc (.cells #[.int .u64 0, .int .u64 0, .int .u64 0, .int .u64 0, .int .u64 0, .int .u64 0, .int .u64 0, .int .u64 0, .int .u64 0, .int .u64 0, .int .u64 0, .int .u64 0, .int .u64 0, .int .u64 0, .int .u64 0, .int .u64 0] 33)).heap[wr.heap.size]? = some (.cells (ds 0).toList.toArray 33 (0, 0)) := by rw [Array.toArray_toList, ds_zero]; exact hz
          have HZ2 := Lib.hid hz2
          clear hz hz2
          go_wp2_with (with_reducible refine wpList_copy_splice rfl (.tmp 57) (.tmp 58) 86 86 rfl 24 Tryd.underlying86 (by kernel_rfl) (some ⟨wr.heap.size, 0, none⟩) (some ad) 16 16 16 c3 rfl rfl wr.heap.size 0 (ds 0).toList 33 HZ2.out ((dgl T 16).map (nc .u64)) (by simp [dgl_len]) (fun _ => ⟨rfl, ad, rfl, us_cells (HU3.out.alloc (Nat.le_refl _) _) ad rfl⟩) (by simp [ds_size, dgl_len]) (nc_all _) wr.heap.size wr ((Below.refl _ wr).alloc (Nat.le_refl _) _) (Nat.le_refl _) ?_; intro w4 hg4 hb4)
          have hk4 : Blk w4 wr.heap.size 33 (ds T) := by have := hg4.out; rw [splice_ds] at this; exact this
          have hF4 := (HF3.out.keep hb4 hsw3 (by simp) (by simp <;> omega)).more hk4
          obtain ⟨gn, hgn⟩ : ∃ gn, gn = wr.heap.size := ⟨_, rfl⟩
          rw [← hgn] at hF4 hres3 hsw3 ⊢
          have HF4 := Lib.hid hF4
          clear hF4 hk4 hg4 hb4 HZ2 HU3 HF3 hgn
          go_loopw [6, 7] (fun _ _ wq => ∃ t : Nat, t < 65536 ^ 16 ∧ t % PP = V ∧ Fr w wq [(gn, 33, ds t)] [(w.heap.size, 33, 16)]) (fun _ _ wq => readU wq (.slice (some ⟨gn, 0, none⟩) 16 16))
          case atStart => exact ⟨T, HTM.out, HMT.out, HF4.out⟩
          case round =>
            obtain ⟨t, ht, htV, hF⟩ := hrel
            clear HF4
            have hK := hF.get (g := gn) (t := 33) (cs := ds t) (by simp)
            have c15 : wr.cell? ⟨gn, 15, none⟩ = some (.int .u64 ((t / 65536 ^ 15 % 65536 : Nat) : Int)) := by rw [hK.cell, ds_get _ (by omega)]
            have hh15 : t / 65536 ^ 15 % 65536 = t / 65536 ^ 15 := Nat.mod_eq_of_lt (by rw [Nat.div_lt_iff_lt_mul (Nat.pow_pos (by omega))]; rw [Nat.pow_succ, Nat.mul_comm] at ht; exact ht)
            rw [hh15] at c15
            have hl15 : t / 65536 ^ 15 < 65536 := by rw [← hh15]; exact Nat.mod_lt _ (by omega)
            have htop := top_mod (t := t) rfl
            have HTOP := Lib.hid htop
            have HT4 := Lib.hid ht
            have HV4 := Lib.hid htV
            have HF := Lib.hid hF
            have HK := Lib.hid hK
            have f15 := hK.frozen 15
            obtain ⟨h, hh⟩ : ∃ h, h = t / 65536 ^ 15 := ⟨_, rfl⟩
            rw [← hh] at c15 hl15 HTOP
            have HH := Lib.hid hh
            clear htop ht htV hF hK hh15 hh
            by_cases hbig : 32767 < h
            · obtain ⟨t1, ht1⟩ : ∃ t1, t1 = putd 65536 t 15 (h % 32768) := ⟨_, rfl⟩
              obtain ⟨q1, q2, q3, q4⟩ := top_fold HH.out HT4.out hbig hl15 ht1
              have hpt := ds_put (n := t) (k := 15) (x := h % 32768) (by omega) (by omega)
              rw [← ht1] at hpt
              have hcast : ((h % 32768 : Nat) : Int) = (h : Int) % 32768 := by omega
              rw [hcast] at hpt
              have hreadt := read_ds HK.out HT4.out
              have hF1 := HF.out.setHead (by simp) (by simp <;> omega) 15 (.int .u64 ((h : Int) % 32768)) (by omega)
              rw [hpt] at hF1
              have hK1 := hF1.get (g := gn) (t := 33) (cs := ds t1) (by simp)
              have hus := us_ds hK1 HK.out.lt
              have hgnl := HK.out.lt
              have hsw := HF.out.size
              have hd0 : t1 % 65536 < 65536 := Nat.mod_lt _ (by omega)
              have HF1 := Lib.hid hF1
              have HK1 := Lib.hid hK1
              have HUS := Lib.hid hus
              have HRT := Lib.hid hreadt
              have HQ1 := Lib.hid q1
              have HQ2 := Lib.hid q2
              have HQ3 := Lib.hid q3
              have HQ4 := Lib.hid q4
              clear hF1 hK1 hus hreadt q1 q2 q3 q4 hpt ht1 HF HH HTOP HK
              have hda := dgl_at0 t1
              generalize hdd : t1 % 65536 = d0 at *
              have HDA := Lib.hid hda
              have HDD := Lib.hid hdd
              clear hda hdd
              have hbg : decide ((32767 : Int) < (h : Int)) = true := decide_eq_true (by omega)
              clear hcast
              have hw1 : IntKind.u64.wrap (19 * ((h : Int) / 32768)) = 19 * ((h : Int) / 32768) := by rw [IntKind.wrap_u64]; omega
              have hw2 : IntKind.u64.wrap ((d0 : Int) + 19 * ((h : Int) / 32768)) = (d0 : Int) + 19 * ((h : Int) / 32768) := by rw [IntKind.wrap_u64]; omega
              go_upto_region 21 with (at_builtin; refine wpList_app_ownU rfl (.tmp 70) (.tmp 71) 86 rfl 24 Tryd.underlying86 info_u64 wr.heap.size (.slice none 0 0) [] rfl (OwnU.nil _ _ _) wr.heap.size 16 16 (some ⟨gn, 0, none⟩) (dgl t1 16) rfl HUS.out (by simp) (by simp) ?_; intro v5 w5 hown5 hg5 hat5; rw [List.nil_append] at hown5; obtain ⟨ge, cap5, rfl, hge1, hge2⟩ := hown5.slice (by rw [dgl_len]; omega); rw [dgl_len] at hown5 ⊢; have c50 := hown5.cell (by rw [dgl_len]) HDA.out; have f50 := hown5.frozen (by rw [dgl_len]) 0; have HO5 := Lib.hid hown5; have HG5 := Lib.hid hg5; have HGE1 := Lib.hid hge1; have HGE2 := Lib.hid hge2; clear hown5 hg5 hat5 hge1 hge2)
              rw [dgl_len]
              go_wp2_with (fail)
              have hown5 := HO5.out
              have hg5 := HG5.out
              have hge1 := HGE1.out
              have hge2 := HGE2.out
              clear HO5 HG5 HGE1 HGE2
              obtain ⟨le, hle⟩ : ∃ le, le = (dgl t1 16).set 0 (d0 + 19 * (h / 32768)) := ⟨_, rfl⟩
              obtain ⟨hS1, hS2⟩ := hown5.set (by rw [dgl_len]) 0 (d0 + 19 * (h / 32768))
              rw [← hle] at hS1
              have hcst : ((d0 + 19 * (h / 32768) : Nat) : Int) = (d0 : Int) + 19 * ((h : Int) / 32768) := by omega
              rw [hcst] at hS1 hS2
              have hlel : le.length = 16 := by rw [hle, List.length_set, dgl_len]
              have hled : dval le = t1 + 19 * (h / 32768) := by
                have h5 := dval_set (dgl t1 16) 0 (d0 + 19 * (h / 32768)) (by rw [dgl_len]; omega)
                rw [← hle, dval_dgl, Nat.mod_eq_of_lt HQ1.out, dgl_get t1 16 (by omega), Nat.pow_zero, Nat.div_one, HDD.out] at h5
                omega
              have hleb : ∀ j, le.getD j 0 ≤ 1099511627776 := by
                intro j
                rw [hle, getD_set _ _ _ _ (by rw [dgl_len]; omega)]
                have := dgl_small t1 16 j
                split <;> omega
              have hsz5 := hg5.size
              simp at hsz5
              have hF6 := (((HF1.out.sub (L' := []) (R' := [(w.heap.size, 33, 16)]) (by simp) (by simp)).grow hg5 (by simp) (by simp [Value.ownBlock]) (by intro g h; cases h))).grow hS2 (by simp) (by simp <;> omega) (by intro g h; injection h with h; omega)
              have hK6 := (HK1.out.grown hg5 (by simp [Value.ownBlock])).grown hS2 (by intro e; injection e with e; omega)
              have hsz6 := hS2.size
              obtain ⟨w6, hw6⟩ : ∃ w6, w6 = w5.setCell ⟨ge, 0, none⟩ (.int .u64 ((d0 : Int) + 19 * ((h : Int) / 32768))) := ⟨_, rfl⟩
              rw [← hw6] at hS1 hF6 hK6 hsz6 ⊢
              clear hw6 hS2 hown5 hg5 c50 f50
              have hcar := carried_any wr.heap.size ge cap5 le w6.drew (by rw [hlel]; exact hS1.drew) (by omega) hleb (by omega) (by simp; omega)
              rw [hlel] at hcar
              have HCAR := Lib.hid hcar
              have HF6 := Lib.hid hF6
              have KZ := Lib.hid hK6.drew
              have HLD := Lib.hid hled
              have HLL := Lib.hid hlel
              clear hcar hF6 hK6 hled hleb hle hS1 hlel hcst
              go_wp2_with (fail)
              refine wp_region_held_drew (S := fun W => Fr w W [] [(w.heap.size, 33, 16)]) (by kernel_rfl) ?_ (fun hHeld => ?_)
              · exact HF6.out.drew
              refine wpAnyH_take (i := 0) (v := ?_) rfl (by kernel_rfl) (by kernel_rfl) (by kernel_rfl) (fun _ _ _ h => h) (Or.inl ⟨by rfl, ?_⟩) hHeld ?_
              rotate_left
              · (intro W hSw; (try dsimp only at hSw); (try simp only [List.getElem_toArray, List.getElem_cons_succ, List.getElem_cons_zero]); go_simp; try with_reducible rfl)
              try simp only [Act.put, List.getElem_toArray, List.getElem_cons_succ, List.getElem_cons_zero, List.setIfInBounds_toArray, List.set_cons_zero, List.set_cons_succ]
              refine wpAnyH_take (i := 1) (v := ?_) rfl (by kernel_rfl) (by kernel_rfl) (by kernel_rfl) (fun _ _ _ h => h) (Or.inl ⟨by rfl, ?_⟩) hHeld ?_
              rotate_left
              · (intro W hSw; (try dsimp only at hSw); (try simp only [List.getElem_toArray, List.getElem_cons_succ, List.getElem_cons_zero]); go_simp; try with_reducible rfl)
              try simp only [Act.put, List.getElem_toArray, List.getElem_cons_succ, List.getElem_cons_zero, List.setIfInBounds_toArray, List.set_cons_zero, List.set_cons_succ]
              refine wpAnyH_ready (rs := [2]) (by kernel_rfl) (by simp) (AllReadyH.cons rfl (fun K hK => ?_) AllReadyH.nil)
              have h0 := hHeld
              clear hHeld
              try simp only [List.getElem_toArray, List.getElem_cons_succ, List.getElem_cons_zero]
              go_simp
              go_at_call 80
              refine HCAR.out.mono ?_
              rintro e w7 ⟨v', m, rfl, hown7, hg7, hown8, hm16, hTm, hm2⟩
              rw [HLL.out] at hm16 hm2
              rw [HLD.out] at hown7 hTm hm2
              have hm : m = 16 := by
                rcases hm2 with h2 | h2
                · exact h2
                · have h3 := HQ2.out
                  apply Nat.le_antisymm _ hm16
                  apply Nat.le_of_not_lt
                  intro hlt
                  have h4 : 65536 ^ 16 ≤ 65536 ^ (m - 1) := Nat.pow_le_pow_right (by omega) (by omega)
                  omega
              subst hm
              obtain ⟨A7, n7, c7, rfl, hU7, _⟩ := hown7.form
              have hl7 := hU7.len
              rw [dgl_len] at hl7
              subst hl7
              have h1 := h0.grow hg7 (by simp) (by simp <;> omega) (by intro g h; injection h with h; omega)
              have kz7 := KZ.out.grown hg7 (by intro e; injection e with e; omega)
              have HU7 := Lib.hid hU7
              have KZ7 := Lib.hid kz7
              clear hown7 hg7 hown8 hTm hm2 hm16 h0 kz7 hU7 KZ HCAR
              go_wp2_with (fail)
              refine hK.out _ _ h1 (fun hHeld => ?_)
              clear hK K h1
              try simp only [Act.put, List.getElem_toArray, List.getElem_cons_succ, List.getElem_cons_zero, List.setIfInBounds_toArray, List.set_cons_zero, List.set_cons_succ]
              obtain ⟨ad, had⟩ : ∃ ad, A7 = some ad := by obtain ⟨b, o, e, _⟩ := HU7.out.at_ (by omega); exact ⟨_, e⟩
              subst had
              have hz7 : w7.heap[gn]? = some (.cells (ds t1).toList.toArray 33 (0, 0)) := by rw [Array.toArray_toList]; exact KZ7.out
              have hgn7 := KZ7.out.lt
              refine wpAnyH_ready (rs := [3]) (by kernel_rfl) (by simp) (AllReadyH.cons rfl (fun K hK => ?_) AllReadyH.nil)
              have h0 := hHeld
              clear hHeld
              refine step_copy_splice rfl (.tmp 81) (.tmp 83) 86 86 rfl 24 Tryd.underlying86 (by kernel_rfl) (some ⟨gn, 0, none⟩) (some ad) 16 16 16 c7 rfl rfl gn 0 (ds t1).toList 33 hz7 ((dgl (t1 + 19 * (h / 32768)) 16).map (nc .u64)) (by simp [dgl_len]) (fun _ => ⟨rfl, ad, rfl, us_cells HU7.out ad rfl⟩) (by simp [ds_size, dgl_len]) (nc_all _) gn w7 (Below.refl _ w7) (Nat.le_refl _) ?_
              intro w8 hg8 hb8
              have hk8 : Blk w8 gn 33 (ds (t1 + 19 * (h / 32768))) := by have := hg8.out; rw [splice_ds] at this; exact this
              have HK8 := Lib.hid hk8
              refine hK.out _ _ (h0.keep hb8 (by omega) (by simp) (by simp <;> omega)) (fun hHeld => ?_)
              clear hK K h0 hk8 hg8 hb8
              try simp only [Act.put, List.getElem_toArray, List.getElem_cons_succ, List.getElem_cons_zero, List.setIfInBounds_toArray, List.set_cons_zero, List.set_cons_succ]
              refine wpAnyH_done (by kernel_rfl) ?_ _
              have hF8 := hHeld.more HK8.out
              have HF8 := Lib.hid hF8
              clear hHeld hF8
              have hr8 := read_ds HK8.out HQ2.out
              have HR8 := Lib.hid hr8
              clear hr8
              go_wp2_with (fail)
              refine ⟨?_, ?measure⟩
              · (repeat apply Exists.intro)
                refine ⟨?rel, rfl⟩
                exact ⟨t1 + 19 * (h / 32768), HQ2.out, by rw [HQ3.out, HV4.out], HF8.out⟩
              case measure =>
                show readU w8 _ < readU wr _
                rw [HR8.out, HRT.out]
                exact HQ4.out
            · have ht255 : t < 57896044618658097711785492504343953926634992332820282019728792003956564819968 := by
                have h1 := HH.out
                have h2 := HT4.out
                have e : (65536 : Nat) ^ 15 = 1766847064778384329583297500742918515827483896875618958121606201292619776 := by decide
                rw [e] at h1
                omega
              have HT5 := Lib.hid ht255
              clear ht255
              have hnb : decide ((32767 : Int) < (h : Int)) = false := decide_eq_false (by omega)
              go_wp2_with (fail)
              have hPl : PP < 115792089237316195423570985008687907853269984665640564039457584007913129639936 := by rw [PP_eq]; omega
              have htl := HT4.out
              rw [d16] at htl
              have hless := fun W => rless_any t PP W htl hPl
              have HPL := Lib.hid hPl
              have HTL := Lib.hid htl
              by_cases hc : t < PP
              · rw [decide_eq_true hc] at hless
                have htv := HV4.out
                rw [Nat.mod_eq_of_lt hc] at htv
                have hlv := hless
                have HLESS := Lib.hid hless
                have HTV := Lib.hid htv
                clear hless hlv htv hPl htl
                refine wp_region_held_drew (S := fun W => Fr w W [(gn, 33, ds t)] [(w.heap.size, 33, 16)]) (by kernel_rfl) ?_ (fun hHeld => ?_)
                · exact HF.out.drew
                refine wpAnyH_take (i := 0) (v := .agg (ds t)) rfl (by kernel_rfl) (by kernel_rfl) (by kernel_rfl) (fun _ _ _ h => h) (yields_row (by rfl) 33 (.tmp 5) rfl (gn) rfl 33 (ds t) _ (fun W (h : Fr _ W _ _) => h.get (by simp)) Tryd.underlying33 rfl (info_ds _)) hHeld ?_
                try simp only [Act.put, List.getElem_toArray, List.getElem_cons_succ, List.getElem_cons_zero, List.setIfInBounds_toArray, List.set_cons_zero, List.set_cons_succ]
                refine wpAnyH_ready (rs := [1]) (by kernel_rfl) (by simp) (AllReadyH.cons rfl (fun K hK => ?_) AllReadyH.nil)
                have h0 := hHeld
                clear hHeld
                try simp only [List.getElem_toArray, List.getElem_cons_succ, List.getElem_cons_zero]
                have H0 := Lib.hid h0
                clear h0
                go_simp
                go_at_call 55
                refine (rprime_any _).mono ?_
                rintro e vv ⟨rfl, hb⟩
                have h1 := H0.out.ext hb
                clear hb H0
                go_wp2_with (fail)
                refine hK.out _ _ h1 (fun hHeld => ?_)
                clear hK K h1
                try simp only [Act.put, List.getElem_toArray, List.getElem_cons_succ, List.getElem_cons_zero, List.setIfInBounds_toArray, List.set_cons_zero, List.set_cons_succ]
                refine wpAnyH_ready (rs := [2]) (by kernel_rfl) (by simp) (AllReadyH.cons rfl (fun K hK => ?_) AllReadyH.nil)
                have h0 := hHeld
                clear hHeld
                try simp only [List.getElem_toArray, List.getElem_cons_succ, List.getElem_cons_zero]
                have H0 := Lib.hid h0
                clear h0
                go_simp
                go_at_call 54
                refine (HLESS.out _).mono ?_
                rintro e vv ⟨rfl, hb⟩
                have h1 := H0.out.ext hb
                clear hb H0
                go_wp2_with (fail)
                refine hK.out _ _ h1 (fun hHeld => ?_)
                clear hK K h1
                try simp only [Act.put, List.getElem_toArray, List.getElem_cons_succ, List.getElem_cons_zero, List.setIfInBounds_toArray, List.set_cons_zero, List.set_cons_succ]
                refine wpAnyH_take (i := 3) (v := ?_) rfl (by kernel_rfl) (by kernel_rfl) (by kernel_rfl) (fun _ _ _ h => h) (Or.inl ⟨by rfl, ?_⟩) hHeld ?_
                rotate_left
                · (intro W hSw; (try dsimp only at hSw); (try simp only [List.getElem_toArray, List.getElem_cons_succ, List.getElem_cons_zero]); go_simp; try with_reducible rfl)
                try simp only [Act.put, List.getElem_toArray, List.getElem_cons_succ, List.getElem_cons_zero, List.setIfInBounds_toArray, List.set_cons_zero, List.set_cons_succ]
                refine wpAnyH_done (by kernel_rfl) ?_ _
                have HFF := Lib.hid hHeld
                clear hHeld
                have hfv := HFF.out
                rw [HTV.out] at hfv
                clear HFF
                have HFF := Lib.hid hfv
                clear hfv
                obtain ⟨old, hold, kR⟩ := HFF.out.old (g := w.heap.size) (t := 33) (n := 16) (by simp)
                have kT := HFF.out.get (g := gn) (t := 33) (cs := ds V) (by simp)
                have kS := kR.setRow_same (ds V)
                have hB2 := below_setRow HFF.out.below (Nat.le_refl _) (ds V)
                have hold' : old.size = (ds V).size := by rw [hold, ds_size]
                have HS := Lib.hid kS
                have HB2 := Lib.hid hB2
                have HO := Lib.hid hold'
                clear kS hB2 hold hold'
                go_wp2_with (first | (refine wpList_load_row rfl 33 (.tmp 5) rfl gn rfl 33 (ds V) (0, 0) _ kT Tryd.underlying33 rfl (info_ds _) ?_) | (refine wpList_store_row rfl 33 (.tmp 2) (.tmp 92) rfl (w.heap.size) (ds V) rfl rfl 33 old kR (info_ds _) HO.out (ds_one _) ?_))
                exact bodyPost_ret (results_cell_row rfl _ _ (w.heap.size) 33 (ds V) (0, 0) _ rfl HS.out Tryd.underlying33 rfl (info_ds _)) rfl ⟨rfl, HB2.out⟩
              · rw [decide_eq_false hc] at hless
                have htv : t - PP = V := by rw [← HV4.out, Nat.mod_eq_sub_mod (by omega), Nat.mod_eq_of_lt (by have := HT5.out; rw [PP_eq] at hc ⊢; omega)]
                have HLESS := Lib.hid hless
                have HTV := Lib.hid htv
                have hmin := fun W => rminus_any t PP W HTL.out (by omega)
                rw [htv] at hmin
                have HMIN := Lib.hid hmin
                clear hless htv hPl htl hmin
                refine wp_region_held_drew (S := fun W => Fr w W [(gn, 33, ds t)] [(w.heap.size, 33, 16)]) (by kernel_rfl) ?_ (fun hHeld => ?_)
                · exact HF.out.drew
                refine wpAnyH_take (i := 0) (v := .agg (ds t)) rfl (by kernel_rfl) (by kernel_rfl) (by kernel_rfl) (fun _ _ _ h => h) (yields_row (by rfl) 33 (.tmp 5) rfl (gn) rfl 33 (ds t) _ (fun W (h : Fr _ W _ _) => h.get (by simp)) Tryd.underlying33 rfl (info_ds _)) hHeld ?_
                try simp only [Act.put, List.getElem_toArray, List.getElem_cons_succ, List.getElem_cons_zero, List.setIfInBounds_toArray, List.set_cons_zero, List.set_cons_succ]
                refine wpAnyH_ready (rs := [1]) (by kernel_rfl) (by simp) (AllReadyH.cons rfl (fun K hK => ?_) AllReadyH.nil)
                have h0 := hHeld
                clear hHeld
                try simp only [List.getElem_toArray, List.getElem_cons_succ, List.getElem_cons_zero]
                have H0 := Lib.hid h0
                clear h0
                go_simp
                go_at_call 55
                refine (rprime_any _).mono ?_
                rintro e vv ⟨rfl, hb⟩
                have h1 := H0.out.ext hb
                clear hb H0
                go_wp2_with (fail)
                refine hK.out _ _ h1 (fun hHeld => ?_)
                clear hK K h1
                try simp only [Act.put, List.getElem_toArray, List.getElem_cons_succ, List.getElem_cons_zero, List.setIfInBounds_toArray, List.set_cons_zero, List.set_cons_succ]
                refine wpAnyH_ready (rs := [2]) (by kernel_rfl) (by simp) (AllReadyH.cons rfl (fun K hK => ?_) AllReadyH.nil)
                have h0 := hHeld
                clear hHeld
                try simp only [List.getElem_toArray, List.getElem_cons_succ, List.getElem_cons_zero]
                have H0 := Lib.hid h0
                clear h0
                go_simp
                go_at_call 54
                refine (HLESS.out _).mono ?_
                rintro e vv ⟨rfl, hb⟩
                have h1 := H0.out.ext hb
                clear hb H0
                go_wp2_with (fail)
                refine hK.out _ _ h1 (fun hHeld => ?_)
                clear hK K h1
                try simp only [Act.put, List.getElem_toArray, List.getElem_cons_succ, List.getElem_cons_zero, List.setIfInBounds_toArray, List.set_cons_zero, List.set_cons_succ]
                refine wpAnyH_take (i := 3) (v := ?_) rfl (by kernel_rfl) (by kernel_rfl) (by kernel_rfl) (fun _ _ _ h => h) (Or.inl ⟨by rfl, ?_⟩) hHeld ?_
                rotate_left
                · (intro W hSw; (try dsimp only at hSw); (try simp only [List.getElem_toArray, List.getElem_cons_succ, List.getElem_cons_zero]); go_simp; try with_reducible rfl)
                try simp only [Act.put, List.getElem_toArray, List.getElem_cons_succ, List.getElem_cons_zero, List.setIfInBounds_toArray, List.set_cons_zero, List.set_cons_succ]
                refine wpAnyH_done (by kernel_rfl) ?_ _
                have HFF := Lib.hid hHeld
                clear hHeld
                go_wp2_with (fail)
                have kz := HFF.out.get (g := gn) (t := 33) (cs := ds t) (by simp)
                have hS2 := HFF.out.sub (L' := []) (R' := [(w.heap.size, 33, 16)]) (by simp) (by simp)
                have KZ := Lib.hid kz.drew
                have HS2 := Lib.hid hS2
                clear kz hS2 HFF
                refine wp_region_held_drew (S := fun W => Fr w W [] [(w.heap.size, 33, 16)]) (by kernel_rfl) ?_ (fun hHeld => ?_)
                · exact HS2.out.drew
                refine wpAnyH_ready (rs := [0, 1]) (by kernel_rfl) (by simp) (AllReadyH.cons rfl (fun K hK => ?_) (AllReadyH.cons rfl (fun K hK => ?_) AllReadyH.nil))
                · have h0 := hHeld
                  clear hHeld
                  try simp only [List.getElem_toArray, List.getElem_cons_succ, List.getElem_cons_zero]
                  rw [if_pos (by rfl)]
                  refine wp_load_row 33 (.tmp 5) rfl (gn) rfl 33 (ds t) (0, 0) _ KZ.out Tryd.underlying33 rfl (info_ds _) ?_
                  refine hK.out _ _ h0 (fun hHeld => ?_)
                  clear hK K h0
                  try simp only [Act.put, List.getElem_toArray, List.getElem_cons_succ, List.getElem_cons_zero, List.setIfInBounds_toArray, List.set_cons_zero, List.set_cons_succ]
                  refine wpAnyH_ready (rs := [1]) (by kernel_rfl) (by simp) (AllReadyH.cons rfl (fun K hK => ?_) AllReadyH.nil)
                  have h0 := hHeld
                  clear hHeld
                  try simp only [List.getElem_toArray, List.getElem_cons_succ, List.getElem_cons_zero]
                  have H0 := Lib.hid h0
                  clear h0
                  go_simp
                  go_at_call 55
                  refine (rprime_any _).mono ?_
                  rintro e vv ⟨rfl, hb⟩
                  have kz := KZ.out.below hb KZ.out.lt
                  clear KZ
                  have KZ := Lib.hid kz
                  clear kz
                  have h1 := H0.out.ext hb
                  clear hb H0
                  go_wp2_with (fail)
                  refine hK.out _ _ h1 (fun hHeld => ?_)
                  clear hK K h1
                  try simp only [Act.put, List.getElem_toArray, List.getElem_cons_succ, List.getElem_cons_zero, List.setIfInBounds_toArray, List.set_cons_zero, List.set_cons_succ]
                  refine wpAnyH_ready (rs := [2]) (by kernel_rfl) (by simp) (AllReadyH.cons rfl (fun K hK => ?_) AllReadyH.nil)
                  have h0 := hHeld
                  clear hHeld
                  try simp only [List.getElem_toArray, List.getElem_cons_succ, List.getElem_cons_zero]
                  have H0 := Lib.hid h0
                  clear h0
                  go_simp
                  go_at_call 79
                  refine (HMIN.out _).mono ?_
                  rintro e vv ⟨rfl, hb⟩
                  have kz := KZ.out.below hb KZ.out.lt
                  clear KZ
                  have KZ := Lib.hid kz
                  clear kz
                  have h1 := H0.out.ext hb
                  clear hb H0
                  go_wp2_with (fail)
                  refine hK.out _ _ h1 (fun hHeld => ?_)
                  clear hK K h1
                  try simp only [Act.put, List.getElem_toArray, List.getElem_cons_succ, List.getElem_cons_zero, List.setIfInBounds_toArray, List.set_cons_zero, List.set_cons_succ]
                  refine wpAnyH_ready (rs := [3]) (by kernel_rfl) (by simp) (AllReadyH.cons rfl (fun K hK => ?_) AllReadyH.nil)
                  have h0 := hHeld
                  clear hHeld
                  try simp only [List.getElem_toArray, List.getElem_cons_succ, List.getElem_cons_zero]
                  rw [if_pos (by rfl)]
                  refine wp_store_row 33 (.tmp 5) (.tmp 91) rfl (gn) (ds V) rfl rfl 33 _ KZ.out (info_ds _) (by rw [ds_size, ds_size]) (ds_one _) ?_
                  refine hK.out _ _ (Fr.setOut h0 (g := gn) (by omega) (by simp <;> omega) (by simp <;> omega) _) (fun hHeld => ?_)
                  have kb := KZ.out.setRow_same (ds V)
                  clear hK K h0
                  try simp only [Act.put, List.getElem_toArray, List.getElem_cons_succ, List.getElem_cons_zero, List.setIfInBounds_toArray, List.set_cons_zero, List.set_cons_succ]
                  refine wpAnyH_done (by kernel_rfl) ?_ _
                  have hff := hHeld.more kb
                  have HFF := Lib.hid hff
                  clear hHeld hff kb
                  obtain ⟨old, hold, kR⟩ := HFF.out.old (g := w.heap.size) (t := 33) (n := 16) (by simp)
                  have kT := HFF.out.get (g := gn) (t := 33) (cs := ds V) (by simp)
                  have kS := kR.setRow_same (ds V)
                  have hB2 := below_setRow HFF.out.below (Nat.le_refl _) (ds V)
                  have hold' : old.size = (ds V).size := by rw [hold, ds_size]
                  have HS := Lib.hid kS
                  have HB2 := Lib.hid hB2
                  have HO := Lib.hid hold'
                  clear kS hB2 hold hold'
                  go_wp2_with (first | (refine wpList_load_row rfl 33 (.tmp 5) rfl gn rfl 33 (ds V) (0, 0) _ kT Tryd.underlying33 rfl (info_ds _) ?_) | (refine wpList_store_row rfl 33 (.tmp 2) (.tmp 92) rfl (w.heap.size) (ds V) rfl rfl 33 old kR (info_ds _) HO.out (ds_one _) ?_))
                  exact bodyPost_ret (results_cell_row rfl _ _ (w.heap.size) 33 (ds V) (0, 0) _ rfl HS.out Tryd.underlying33 rfl (info_ds _)) rfl ⟨rfl, HB2.out⟩
                · have h0 := hHeld
                  clear hHeld
                  try simp only [List.getElem_toArray, List.getElem_cons_succ, List.getElem_cons_zero]
                  have H0 := Lib.hid h0
                  clear h0
                  go_simp
                  go_at_call 55
                  refine (rprime_any _).mono ?_
                  rintro e vv ⟨rfl, hb⟩
                  have kz := KZ.out.below hb KZ.out.lt
                  clear KZ
                  have KZ := Lib.hid kz
                  clear kz
                  have h1 := H0.out.ext hb
                  clear hb H0
                  go_wp2_with (fail)
                  refine hK.out _ _ h1 (fun hHeld => ?_)
                  clear hK K h1
                  try simp only [Act.put, List.getElem_toArray, List.getElem_cons_succ, List.getElem_cons_zero, List.setIfInBounds_toArray, List.set_cons_zero, List.set_cons_succ]
                  refine wpAnyH_ready (rs := [0]) (by kernel_rfl) (by simp) (AllReadyH.cons rfl (fun K hK => ?_) AllReadyH.nil)
                  have h0 := hHeld
                  clear hHeld
                  try simp only [List.getElem_toArray, List.getElem_cons_succ, List.getElem_cons_zero]
                  rw [if_pos (by rfl)]
                  refine wp_load_row 33 (.tmp 5) rfl (gn) rfl 33 (ds t) (0, 0) _ KZ.out Tryd.underlying33 rfl (info_ds _) ?_
                  refine hK.out _ _ h0 (fun hHeld => ?_)
                  clear hK K h0
                  try simp only [Act.put, List.getElem_toArray, List.getElem_cons_succ, List.getElem_cons_zero, List.setIfInBounds_toArray, List.set_cons_zero, List.set_cons_succ]
                  refine wpAnyH_ready (rs := [2]) (by kernel_rfl) (by simp) (AllReadyH.cons rfl (fun K hK => ?_) AllReadyH.nil)
                  have h0 := hHeld
                  clear hHeld
                  try simp only [List.getElem_toArray, List.getElem_cons_succ, List.getElem_cons_zero]
                  have H0 := Lib.hid h0
                  clear h0
                  go_simp
                  go_at_call 79
                  refine (HMIN.out _).mono ?_
                  rintro e vv ⟨rfl, hb⟩
                  have kz := KZ.out.below hb KZ.out.lt
                  clear KZ
                  have KZ := Lib.hid kz
                  clear kz
                  have h1 := H0.out.ext hb
                  clear hb H0
                  go_wp2_with (fail)
                  refine hK.out _ _ h1 (fun hHeld => ?_)
                  clear hK K h1
                  try simp only [Act.put, List.getElem_toArray, List.getElem_cons_succ, List.getElem_cons_zero, List.setIfInBounds_toArray, List.set_cons_zero, List.set_cons_succ]
                  refine wpAnyH_ready (rs := [3]) (by kernel_rfl) (by simp) (AllReadyH.cons rfl (fun K hK => ?_) AllReadyH.nil)
                  have h0 := hHeld
                  clear hHeld
                  try simp only [List.getElem_toArray, List.getElem_cons_succ, List.getElem_cons_zero]
                  rw [if_pos (by rfl)]
                  refine wp_store_row 33 (.tmp 5) (.tmp 91) rfl (gn) (ds V) rfl rfl 33 _ KZ.out (info_ds _) (by rw [ds_size, ds_size]) (ds_one _) ?_
                  refine hK.out _ _ (Fr.setOut h0 (g := gn) (by omega) (by simp <;> omega) (by simp <;> omega) _) (fun hHeld => ?_)
                  have kb := KZ.out.setRow_same (ds V)
                  clear hK K h0
                  try simp only [Act.put, List.getElem_toArray, List.getElem_cons_succ, List.getElem_cons_zero, List.setIfInBounds_toArray, List.set_cons_zero, List.set_cons_succ]
                  refine wpAnyH_done (by kernel_rfl) ?_ _
                  have hff := hHeld.more kb
                  have HFF := Lib.hid hff
                  clear hHeld hff kb
                  obtain ⟨old, hold, kR⟩ := HFF.out.old (g := w.heap.size) (t := 33) (n := 16) (by simp)
                  have kT := HFF.out.get (g := gn) (t := 33) (cs := ds V) (by simp)
                  have kS := kR.setRow_same (ds V)
                  have hB2 := below_setRow HFF.out.below (Nat.le_refl _) (ds V)
                  have hold' : old.size = (ds V).size := by rw [hold, ds_size]
                  have HS := Lib.hid kS
                  have HB2 := Lib.hid hB2
                  have HO := Lib.hid hold'
                  clear kS hB2 hold hold'
                  go_wp2_with (first | (refine wpList_load_row rfl 33 (.tmp 5) rfl gn rfl 33 (ds V) (0, 0) _ kT Tryd.underlying33 rfl (info_ds _) ?_) | (refine wpList_store_row rfl 33 (.tmp 2) (.tmp 92) rfl (w.heap.size) (ds V) rfl rfl 33 old kR (info_ds _) HO.out (ds_one _) ?_))
                  exact bodyPost_ret (results_cell_row rfl _ _ (w.heap.size) 33 (ds V) (0, 0) _ rfl HS.out Tryd.underlying33 rfl (info_ds _)) rfl ⟨rfl, HB2.out⟩
end Go.Proofs.YtcijaoihcckofaaDoor
namespace Go.Proofs.YtcijaoihcckofaaDoor
set_option linter.unusedVariables false
set_option linter.unusedSimpArgs false
open Go Go.RowKit
theorem mod_norm (T : Nat) : ModOf 17 (dgl T 17) := mod_gen true (fun h => by cases h) 17 (dgl T 17) (cols_dgl (by omega) (by omega)) (fun _ => dgl_small T 17)
theorem mod_any {n : Nat} {l : List Nat} (h : Cols n l) : ModOf n l := mod_gen false (fun _ => mod_norm) n l h (fun h => by cases h)
theorem mod_dgl (T m : Nat) (h1 : 16 ≤ m) (h2 : m ≤ 17) (hT : T < 65536 ^ m) (A : Option Addr) (c B : Nat) (w : World) (hU : US w B A m c (dgl T m)) (hB : B ≤ w.heap.size) : Calls Tryd.prog 77 #[.slice A m c] w (NumPost (T % PP) w) := by
  have := mod_any (cols_dgl (T := T) h1 h2) A c B w hU hB
  rw [dval_dgl, Nat.mod_eq_of_lt hT] at this
  exact this
theorem PP_lim : PP < 115792089237316195423570985008687907853269984665640564039457584007913129639936 := by rw [PP_eq]; omega
theorem modPP_lt (n : Nat) : n % PP < PP := Nat.mod_lt _ (by rw [PP_eq]; omega)
/-- What 'all' answers: a slice of a number's digits. -/
def AllPost (n : Nat) (w : World) (e : Ending) (w' : World) : Prop := ∃ A c, e = .returned (.slice A 16 c) ∧ US w' w'.heap.size A 16 c (dgl n 16) ∧ Below w.heap.size w w'
set_option maxRecDepth 100000 in
set_option maxHeartbeats 1000000 in
theorem rall_any (n : Nat) (w : World) : Calls Tryd.prog 78 #[.agg (ds n)] w (AllPost n w) := by
  have hfr := (Fr.start w).row (ds n) 33 (g := w.heap.size) rfl
  have hus := us_ds (hfr.get (g := w.heap.size) (t := 33) (cs := ds n) (by simp)) (B := w.heap.size + 1) (by omega)
  have HFR := Lib.hid hfr
  have HUS := Lib.hid hus
  clear hfr hus
  go_enter Tryd.func78, Tryd.ntmps78
  go_wp2_with (at_builtin; refine wpList_app_ownU rfl (.const (.slice none 0 0)) (.tmp 3) 86 rfl 24 Tryd.underlying86 info_u64 (w.heap.size + 1) (.slice none 0 0) [] rfl (OwnU.nil _ _ _) (w.heap.size + 1) 16 16 (some ⟨w.heap.size, 0, none⟩) (dgl n 16) rfl HUS.out (by simp) (by simp) ?_; intro v1 w1 hown1 hg1 hat1)
  rw [List.nil_append] at hown1
  obtain ⟨A, m, c, rfl, hU, _⟩ := hown1.form
  have hl := hU.len
  rw [dgl_len] at hl
  subst hl
  have hb := HFR.out.below.grown hg1 (by simp) (by intro g h; cases h)
  go_ret
  exact ⟨A, c, rfl, hU, hb⟩
def addl (a b k : Nat) : List Nat := (List.range k).map fun t => a / 65536 ^ t % 65536 + b / 65536 ^ t % 65536
theorem addl_len (a b k : Nat) : (addl a b k).length = k := by simp [addl]
theorem addl_step (a b k : Nat) : addl a b (k + 1) = addl a b k ++ [a / 65536 ^ k % 65536 + b / 65536 ^ k % 65536] := by simp [addl, List.range_succ]
theorem addl_small (a b k j : Nat) : (addl a b k).getD j 0 ≤ 1048576 := by
  by_cases h : j < k
  · have h1 := Nat.mod_lt (a / 65536 ^ j) (show 0 < 65536 by omega)
    have h2 := Nat.mod_lt (b / 65536 ^ j) (show 0 < 65536 by omega)
    simp [addl, List.getD, h]
    omega
  · simp [addl, List.getD, h]
theorem dval_addl (a b : Nat) : ∀ k, dval (addl a b k) = a % 65536 ^ k + b % 65536 ^ k
  | 0 => by simp [addl, dval, Nat.mod_one]
  | k + 1 => by
    rw [addl_step, dval_append, dval_addl a b k, addl_len, Nat.mod_pow_succ, Nat.mod_pow_succ]
    simp [dval, Nat.mul_add]
    omega
theorem cols_addl (a b : Nat) : Cols 16 (addl a b 16) := ⟨by omega, by omega, .inl rfl, addl_small a b 16⟩
end Go.Proofs.YtcijaoihcckofaaDoor
namespace Go.Proofs.YtcijaoihcckofaaDoor
set_option linter.unusedVariables false
set_option linter.unusedSimpArgs false
open Go Go.RowKit
theorem prod_digits {a b m : Nat} (ha : a < 65536 ^ 16) (hb : b < 65536 ^ 16) (h : m = 31 ∨ 65536 ^ (m - 1) ≤ a * b) : m ≤ 32 := by
  rcases h with h | h
  · omega
  · apply Nat.le_of_not_lt
    intro hlt
    have h1 : 65536 ^ 32 ≤ 65536 ^ (m - 1) := Nat.pow_le_pow_right (by omega) (by omega)
    have h2 : a * b < 65536 ^ 16 * 65536 ^ 16 := Nat.mul_lt_mul'' ha hb
    rw [← Nat.pow_add] at h2
    omega
theorem cols_prod (T : Nat) {m : Nat} (h1 : 31 ≤ m) (h2 : m ≤ 32) : Cols m (dgl T m) := ⟨by omega, h2, .inr (dgl_small T m), fun j => by have := dgl_small T m j; omega⟩
theorem maxLen_31 : 31 ≤ maxLen := by simp only [maxLen]; omega
set_option maxRecDepth 100000 in
set_option maxHeartbeats 4000000 in
theorem rmul_any (a b : Nat) (w : World) (ha : a < 115792089237316195423570985008687907853269984665640564039457584007913129639936) (hb : b < 115792089237316195423570985008687907853269984665640564039457584007913129639936) : Calls Tryd.prog 49 #[.agg (ds a), .agg (ds b)] w (NumPost (a * b % PP) w) := by
  have hfr := ((((Fr.start w).row (ds a) 33 (g := w.heap.size) rfl).row (ds b) 33 (g := w.heap.size + 1) (by simp)).any (ds 0) 33 16 (ds_size 0) (g := w.heap.size + 1 + 1) (by simp)).row (cs64 (List.replicate 31 0)) 24 (g := w.heap.size + 1 + 1 + 1) (by simp)
  rw [ds_zero] at hfr
  have hcol := col_start 31 a b 0
  have ha' : a < 65536 ^ 16 := by rw [d16]; exact ha
  have hb' : b < 65536 ^ 16 := by rw [d16]; exact hb
  have HA := Lib.hid ha'
  have HB := Lib.hid hb'
  have HFR := Lib.hid hfr
  have HCOL := Lib.hid hcol
  clear hfr hcol ha hb ha' hb'
  obtain ⟨V, hV⟩ : ∃ V, V = a * b % PP := ⟨_, rfl⟩
  rw [← hV]
  have HV := Lib.hid hV
  clear hV
  have hmk := run_mku (P := Tryd.prog) 86 24 Tryd.underlying86 info_u64 31 (by omega) (((w.alloc (.cells (ds a) 33)).alloc (.cells (ds b) 33)).alloc (.cells #[.int .u64 0, .int .u64 0, .int .u64 0, .int .u64 0, .int .u64 0, .int .u64 0, .int .u64 0, .int .u64 0, .int .u64 0, .int .u64 0, .int .u64 0, .int .u64 0, .int .u64 0, .int .u64 0, .int .u64 0, .int .u64 0] 33))
  rw [show ((31 : Nat) : Int) = 31 from rfl] at hmk
  go_enter Tryd.func49, Tryd.ntmps49
  go_wp2_with (fail)
  clear hmk
  go_loopw [6] (fun i wr => ∃ (j : Nat) (l : List Nat), j ≤ 16 ∧ i = .int .i64 j ∧ ColAt 31 a b 0 j l ∧ Fr w wr [(w.heap.size + 1 + 1 + 1, 24, cs64 l), (w.heap.size + 1, 33, ds b), (w.heap.size, 33, ds a)] [(w.heap.size + 1 + 1, 33, 16)]) (fun i _ => 16 - (intOf i).toNat)
  case atStart => exact ⟨0, _, by omega, rfl, HCOL.out, HFR.out⟩
  case round =>
    obtain ⟨j, l, hj, rfl, hC, hF⟩ := hrel
    clear HFR HCOL
    by_cases hlt : j < 16
    · have hin0 := col_in0 hC
      obtain ⟨V2, hV2⟩ : ∃ V2, V2 = 0 % 65536 ^ (j + 1) + a % 65536 ^ j * b := ⟨_, rfl⟩
      have hV3 : a % 65536 ^ j * b = V2 := by rw [hV2, Nat.zero_mod, Nat.zero_add]
      rw [hV3] at hin0
      have HV2 := Lib.hid hV2
      have HIN := Lib.hid hin0
      have HF := Lib.hid hF
      clear hin0 hV2 hV3 hC hF
      have hdt : decide ((j : Int) < 16) = true := decide_eq_true (by omega)
      go_wp2_with (fail)
      try rw [decide_eq_true (show (j : Int) < 16 by omega)]
      go_loopw [7] (fun i wq => ∃ (k : Nat) (l : List Nat), k ≤ 16 ∧ i = .int .i64 k ∧ ColIn 31 a b V2 j k l ∧ Fr w wq [(w.heap.size + 1 + 1 + 1, 24, cs64 l), (w.heap.size + 1, 33, ds b), (w.heap.size, 33, ds a)] [(w.heap.size + 1 + 1, 33, 16)]) (fun i _ => 16 - (intOf i).toNat)
      case atStart => exact ⟨0, _, by omega, rfl, HIN.out, HF.out⟩
      case round =>
        obtain ⟨k, m, hk, rfl, hC, hF⟩ := hrel
        clear HF HIN
        by_cases hkt : k < 16
        · have hml := hC.1
          have hD := hF.get (g := w.heap.size + 1 + 1 + 1) (t := 24) (cs := cs64 m) (by simp)
          have hX := hF.get (g := w.heap.size) (t := 33) (cs := ds a) (by simp)
          have hY := hF.get (g := w.heap.size + 1) (t := 33) (cs := ds b) (by simp)
          have cd : wr.cell? ⟨w.heap.size + 1 + 1 + 1, j + k, none⟩ = some (.int .u64 ((m.getD (j + k) 0 : Nat) : Int)) := by rw [hD.cell, cs64_get _ (by omega)]
          have cx : wr.cell? ⟨w.heap.size, j, none⟩ = some (.int .u64 ((a / 65536 ^ j % 65536 : Nat) : Int)) := by rw [hX.cell, ds_get _ hlt]
          have cy : wr.cell? ⟨w.heap.size + 1, k, none⟩ = some (.int .u64 ((b / 65536 ^ k % 65536 : Nat) : Int)) := by rw [hY.cell, ds_get _ hkt]
          have hf := hD.frozen (j + k)
          obtain ⟨hin, hbd, hpl⟩ := col_step (k := k) (by omega) hC
          have hst := cs64_set m (j + k) (m.getD (j + k) 0 + a / 65536 ^ j % 65536 * (b / 65536 ^ k % 65536))
          have HST := Lib.hid hst
          have HIN := Lib.hid hin
          have HF := Lib.hid hF
          clear hst hin hF hC hD hX hY
          have hxy : IntKind.u64.wrap (((a / 65536 ^ j % 65536 : Nat) : Int) * ((b / 65536 ^ k % 65536 : Nat) : Int)) = ((a / 65536 ^ j % 65536 * (b / 65536 ^ k % 65536) : Nat) : Int) := by rw [← Int.natCast_mul, IntKind.wrap_u64]; omega
          generalize m.getD (j + k) 0 = dj at *
          generalize a / 65536 ^ j % 65536 = x at *
          generalize b / 65536 ^ k % 65536 = y at *
          obtain ⟨p, hp⟩ : ∃ p, p = x * y := ⟨_, rfl⟩
          rw [← hp] at hxy HST HIN hpl
          clear hp
          obtain ⟨sj, hsj⟩ : ∃ sj, sj = dj + p := ⟨_, rfl⟩
          rw [← hsj] at HST HIN
          have hsum : IntKind.u64.wrap ((dj : Int) + (p : Int)) = (sj : Int) := by rw [IntKind.wrap_u64]; omega
          clear hbd hpl hsj
          have b0 : IntKind.i64.wrap ((j : Int) + (k : Int)) = (j : Int) + (k : Int) := by rw [IntKind.wrap_i64]; omega
          have b1 : (0 : Int) ≤ (j : Int) + (k : Int) := by omega
          have b2 : (j : Int) + (k : Int) < 31 := by omega
          have b3 : ((j : Int) + (k : Int)).toNat = j + k := by omega
          have j16 : (j : Int) < 16 := by omega
          have k16 : (k : Int) < 16 := by omega
          have n7 : w.heap.size + 1 + 1 + 1 ≠ w.heap.size := by omega
          have n8 : w.heap.size + 1 + 1 + 1 ≠ w.heap.size + 1 := by omega
          go_wp2_with (fail)
          refine wp_region_held_drew (S := fun W => W.cell? ⟨w.heap.size, j, none⟩ = some (.int .u64 (x : Int)) ∧ W.cell? ⟨w.heap.size + 1, k, none⟩ = some (.int .u64 (y : Int))) (by kernel_rfl) ?_ (fun hHeld => ?_)
          · exact ⟨cx, cy⟩
          refine wpAnyH_take (i := 0) (v := ?_) rfl (by kernel_rfl) (by kernel_rfl) (by kernel_rfl) (fun _ _ _ h => h) (Or.inl ⟨by rfl, ?_⟩) hHeld ?_
          rotate_left
          · (intro W hSw; (try dsimp only at hSw); (try simp only [List.getElem_toArray, List.getElem_cons_succ, List.getElem_cons_zero]); go_simp; try with_reducible rfl)
          try simp only [Act.put, List.getElem_toArray, List.getElem_cons_succ, List.getElem_cons_zero, List.setIfInBounds_toArray, List.set_cons_zero, List.set_cons_succ]
          refine wpAnyH_take (i := 1) (v := ?_) rfl (by kernel_rfl) (by kernel_rfl) (by kernel_rfl) (fun _ _ _ h => h) (Or.inl ⟨by rfl, ?_⟩) hHeld ?_
          rotate_left
          · (intro W hSw; (try dsimp only at hSw); (try simp only [List.getElem_toArray, List.getElem_cons_succ, List.getElem_cons_zero]); go_simp; try with_reducible rfl)
          try simp only [Act.put, List.getElem_toArray, List.getElem_cons_succ, List.getElem_cons_zero, List.setIfInBounds_toArray, List.set_cons_zero, List.set_cons_succ]
          refine wpAnyH_take (i := 2) (v := ?_) rfl (by kernel_rfl) (by kernel_rfl) (by kernel_rfl) (fun _ _ _ h => h) (Or.inl ⟨by rfl, ?_⟩) hHeld ?_
          rotate_left
          · (intro W hSw; (try dsimp only at hSw); (try simp only [List.getElem_toArray, List.getElem_cons_succ, List.getElem_cons_zero]); go_simp; try with_reducible rfl)
          try simp only [Act.put, List.getElem_toArray, List.getElem_cons_succ, List.getElem_cons_zero, List.setIfInBounds_toArray, List.set_cons_zero, List.set_cons_succ]
          refine wpAnyH_take (i := 3) (v := ?_) rfl (by kernel_rfl) (by kernel_rfl) (by kernel_rfl) (fun _ _ _ h => h) (Or.inl ⟨by rfl, ?_⟩) hHeld ?_
          rotate_left
          · (intro W hSw; (try dsimp only at hSw); (try simp only [List.getElem_toArray, List.getElem_cons_succ, List.getElem_cons_zero]); go_simp; try with_reducible rfl)
          try simp only [Act.put, List.getElem_toArray, List.getElem_cons_succ, List.getElem_cons_zero, List.setIfInBounds_toArray, List.set_cons_zero, List.set_cons_succ]
          refine wpAnyH_take (i := 4) (v := ?_) rfl (by kernel_rfl) (by kernel_rfl) (by kernel_rfl) (fun _ _ _ h => h) (Or.inl ⟨by rfl, ?_⟩) hHeld ?_
          rotate_left
          · (intro W hSw; (try dsimp only at hSw); (try simp only [List.getElem_toArray, List.getElem_cons_succ, List.getElem_cons_zero]); go_simp; try with_reducible rfl)
          try simp only [Act.put, List.getElem_toArray, List.getElem_cons_succ, List.getElem_cons_zero, List.setIfInBounds_toArray, List.set_cons_zero, List.set_cons_succ]
          refine wpAnyH_take (i := 5) (v := ?_) rfl (by kernel_rfl) (by kernel_rfl) (by kernel_rfl) (fun _ _ _ h => h) (Or.inl ⟨by rfl, ?_⟩) hHeld ?_
          rotate_left
          · (intro W hSw; (try dsimp only at hSw); (try simp only [List.getElem_toArray, List.getElem_cons_succ, List.getElem_cons_zero]); go_simp; try with_reducible rfl)
          try simp only [Act.put, List.getElem_toArray, List.getElem_cons_succ, List.getElem_cons_zero, List.setIfInBounds_toArray, List.set_cons_zero, List.set_cons_succ]
          refine wpAnyH_take (i := 6) (v := ?_) rfl (by kernel_rfl) (by kernel_rfl) (by kernel_rfl) (fun _ _ _ h => h) (Or.inl ⟨by rfl, ?_⟩) hHeld ?_
          rotate_left
          · (intro W hSw; (try dsimp only at hSw); (try simp only [List.getElem_toArray, List.getElem_cons_succ, List.getElem_cons_zero]); go_simp; try with_reducible rfl)
          try simp only [Act.put, List.getElem_toArray, List.getElem_cons_succ, List.getElem_cons_zero, List.setIfInBounds_toArray, List.set_cons_zero, List.set_cons_succ]
          refine wpAnyH_take (i := 7) (v := ?_) rfl (by kernel_rfl) (by kernel_rfl) (by kernel_rfl) (fun _ _ _ h => h) (Or.inl ⟨by rfl, ?_⟩) hHeld ?_
          rotate_left
          · (intro W hSw; (try dsimp only at hSw); (try simp only [List.getElem_toArray, List.getElem_cons_succ, List.getElem_cons_zero]); go_simp; try with_reducible rfl)
          try simp only [Act.put, List.getElem_toArray, List.getElem_cons_succ, List.getElem_cons_zero, List.setIfInBounds_toArray, List.set_cons_zero, List.set_cons_succ]
          refine wpAnyH_take (i := 8) (v := ?_) rfl (by kernel_rfl) (by kernel_rfl) (by kernel_rfl) (fun _ _ _ h => h) (Or.inl ⟨by rfl, ?_⟩) hHeld ?_
          rotate_left
          · (intro W hSw; (try dsimp only at hSw); (try simp only [List.getElem_toArray, List.getElem_cons_succ, List.getElem_cons_zero]); go_simp; try with_reducible rfl)
          try simp only [Act.put, List.getElem_toArray, List.getElem_cons_succ, List.getElem_cons_zero, List.setIfInBounds_toArray, List.set_cons_zero, List.set_cons_succ]
          refine wpAnyH_take (i := 10) (v := ?_) rfl (by kernel_rfl) (by kernel_rfl) (by kernel_rfl) (fun _ _ _ h => h) (Or.inl ⟨by rfl, ?_⟩) hHeld ?_
          rotate_left
          · (intro W hSw; (try dsimp only at hSw); (try simp only [List.getElem_toArray, List.getElem_cons_succ, List.getElem_cons_zero]); go_simp; try with_reducible rfl)
          try simp only [Act.put, List.getElem_toArray, List.getElem_cons_succ, List.getElem_cons_zero, List.setIfInBounds_toArray, List.set_cons_zero, List.set_cons_succ]
          refine wpAnyH_take (i := 11) (v := ?_) rfl (by kernel_rfl) (by kernel_rfl) (by kernel_rfl) (fun _ _ _ h => h) (Or.inl ⟨by rfl, ?_⟩) hHeld ?_
          rotate_left
          · (intro W hSw; (try dsimp only at hSw); (try simp only [List.getElem_toArray, List.getElem_cons_succ, List.getElem_cons_zero]); go_simp; try with_reducible rfl)
          try simp only [Act.put, List.getElem_toArray, List.getElem_cons_succ, List.getElem_cons_zero, List.setIfInBounds_toArray, List.set_cons_zero, List.set_cons_succ]
          refine wpAnyH_take (i := 12) (v := ?_) rfl (by kernel_rfl) (by kernel_rfl) (by kernel_rfl) (fun _ _ _ h => h) (Or.inl ⟨by rfl, ?_⟩) hHeld ?_
          rotate_left
          · (intro W hSw; (try dsimp only at hSw); (try simp only [List.getElem_toArray, List.getElem_cons_succ, List.getElem_cons_zero]); go_simp; try with_reducible rfl)
          try simp only [Act.put, List.getElem_toArray, List.getElem_cons_succ, List.getElem_cons_zero, List.setIfInBounds_toArray, List.set_cons_zero, List.set_cons_succ]
          refine wpAnyH_take (i := 13) (v := ?_) rfl (by kernel_rfl) (by kernel_rfl) (by kernel_rfl) (fun _ _ _ h => h) (Or.inl ⟨by rfl, ?_⟩) hHeld ?_
          rotate_left
          · (intro W hSw; (try dsimp only at hSw); (try simp only [List.getElem_toArray, List.getElem_cons_succ, List.getElem_cons_zero]); go_simp; try with_reducible rfl)
          try simp only [Act.put, List.getElem_toArray, List.getElem_cons_succ, List.getElem_cons_zero, List.setIfInBounds_toArray, List.set_cons_zero, List.set_cons_succ]
          refine wpAnyH_take (i := 14) (v := ?_) rfl (by kernel_rfl) (by kernel_rfl) (by kernel_rfl) (fun _ _ _ h => h) (Or.inl ⟨by rfl, ?_⟩) hHeld ?_
          rotate_left
          · (intro W hSw; (try dsimp only at hSw); (try simp only [List.getElem_toArray, List.getElem_cons_succ, List.getElem_cons_zero]); go_simp; try with_reducible rfl)
          try simp only [Act.put, List.getElem_toArray, List.getElem_cons_succ, List.getElem_cons_zero, List.setIfInBounds_toArray, List.set_cons_zero, List.set_cons_succ]
          refine wpAnyH_take (i := 15) (v := ?_) rfl (by kernel_rfl) (by kernel_rfl) (by kernel_rfl) (fun _ _ _ h => h) (Or.inl ⟨by rfl, ?_⟩) hHeld ?_
          rotate_left
          · (intro W hSw; (try dsimp only at hSw); (try simp only [List.getElem_toArray, List.getElem_cons_succ, List.getElem_cons_zero]); go_simp; try with_reducible rfl)
          try simp only [Act.put, List.getElem_toArray, List.getElem_cons_succ, List.getElem_cons_zero, List.setIfInBounds_toArray, List.set_cons_zero, List.set_cons_succ]
          refine wpAnyH_take (i := 16) (v := ?_) rfl (by kernel_rfl) (by kernel_rfl) (by kernel_rfl) (fun _ _ _ h => h) (Or.inl ⟨by rfl, ?_⟩) hHeld ?_
          rotate_left
          · (intro W hSw; (try dsimp only at hSw); (try simp only [List.getElem_toArray, List.getElem_cons_succ, List.getElem_cons_zero]); go_simp; try with_reducible rfl)
          try simp only [Act.put, List.getElem_toArray, List.getElem_cons_succ, List.getElem_cons_zero, List.setIfInBounds_toArray, List.set_cons_zero, List.set_cons_succ]
          refine wpAnyH_ready (rs := [9]) (by kernel_rfl) (by simp) (AllReadyH.cons rfl (fun K hK => ?_) AllReadyH.nil)
          have h0 := hHeld
          clear hHeld
          try simp only [List.getElem_toArray, List.getElem_cons_succ, List.getElem_cons_zero]
          go_simp
          refine hK.out _ _ (h0) (fun hHeld => ?_)
          clear hK K h0
          try simp only [Act.put, List.getElem_toArray, List.getElem_cons_succ, List.getElem_cons_zero, List.setIfInBounds_toArray, List.set_cons_zero, List.set_cons_succ]
          refine wpAnyH_take (i := 17) (v := ?_) rfl (by kernel_rfl) (by kernel_rfl) (by kernel_rfl) (fun _ _ _ h => h) (Or.inl ⟨by rfl, ?_⟩) hHeld ?_
          rotate_left
          · (intro W hSw; (try dsimp only at hSw); (try simp only [List.getElem_toArray, List.getElem_cons_succ, List.getElem_cons_zero]); go_simp; try with_reducible rfl)
          try simp only [Act.put, List.getElem_toArray, List.getElem_cons_succ, List.getElem_cons_zero, List.setIfInBounds_toArray, List.set_cons_zero, List.set_cons_succ]
          refine wpAnyH_take (i := 18) (v := ?_) rfl (by kernel_rfl) (by kernel_rfl) (by kernel_rfl) (fun _ _ _ h => h) (Or.inl ⟨by rfl, ?_⟩) hHeld ?_
          rotate_left
          · (intro W hSw; (try dsimp only at hSw); (try simp only [List.getElem_toArray, List.getElem_cons_succ, List.getElem_cons_zero]); go_simp; try with_reducible rfl)
          try simp only [Act.put, List.getElem_toArray, List.getElem_cons_succ, List.getElem_cons_zero, List.setIfInBounds_toArray, List.set_cons_zero, List.set_cons_succ]
          refine wpAnyH_ready (rs := [19]) (by kernel_rfl) (by simp) (AllReadyH.cons rfl (fun K hK => ?_) AllReadyH.nil)
          have h0 := hHeld
          clear hHeld
          try simp only [List.getElem_toArray, List.getElem_cons_succ, List.getElem_cons_zero]
          go_simp
          refine hK.out _ _ (⟨(World.cell?_setCell_far _ _ _ _ (by simp <;> omega)).trans h0.1, (World.cell?_setCell_far _ _ _ _ (by simp <;> omega)).trans h0.2⟩) (fun hHeld => ?_)
          clear hK K h0
          try simp only [Act.put, List.getElem_toArray, List.getElem_cons_succ, List.getElem_cons_zero, List.setIfInBounds_toArray, List.set_cons_zero, List.set_cons_succ]
          refine wpAnyH_done (by kernel_rfl) ?_ _
          go_wp2_with (fail)
          go_roundw
          case rel =>
            refine ⟨k + 1, _, by omega, by go_num, HIN.out, ?_⟩
            rw [← HST.out]
            exact HF.out.drew.setHead (by simp <;> omega) (by simp <;> omega) _ _ (by omega)
          case measure => simp [intOf] <;> omega
        · obtain rfl : k = 16 := by omega
          simp only [show ((16 : Nat) : Int) = 16 from rfl]
          rw [HV2.out] at hC
          have hat := col_end HB.out hC
          have HAT := Lib.hid hat
          have HF := Lib.hid hF
          clear hat hC hF HV2
          go_wp2_with (fail)
          go_roundw
          case rel => exact ⟨j + 1, m, by omega, by go_num, HAT.out, HF.out⟩
          case measure => simp [intOf] <;> omega
    · obtain rfl : j = 16 := by omega
      simp only [show ((16 : Nat) : Int) = 16 from rfl]
      have hTd : dval l = a * b := by have := col_all HA.out (Nat.pow_pos (by omega)) hC; omega
      have hll := hC.1
      have hbd := hC.2.2
      have kd := hF.get (g := w.heap.size + 1 + 1 + 1) (t := 24) (cs := cs64 l) (by simp)
      have hown := OwnU.ofBlk kd 31 hll.symm maxLen_31 (Nat.le_refl (w.heap.size + 1 + 1 + 1))
      have hgl := kd.lt
      have hF2 := hF.sub (L' := []) (R' := [(w.heap.size + 1 + 1, 33, 16)]) (by simp) (by simp)
      have hcar := carried_any (w.heap.size + 1 + 1 + 1) (w.heap.size + 1 + 1 + 1) 31 l wr (by rw [hll]; exact hown) (by omega) (fun j => by have := hbd j; omega) (by omega) (by omega)
      rw [hll] at hcar
      have HCAR := Lib.hid hcar
      have HF := Lib.hid hF2
      have HTD := Lib.hid hTd
      have hsw := hF2.size
      clear hcar hF hF2 hC hTd hown kd hbd
      go_wp2_with (fail)
      refine HCAR.out.mono ?_
      rintro e w3 ⟨v', m, rfl, hown3, hg3, hown4, hm31, hTm, hm2⟩
      rw [hll] at hm31 hm2
      rw [HTD.out] at hown3 hTm hm2
      have hm32 := prod_digits HA.out HB.out hm2
      have hF3 := HF.out.grow hg3 (by simp) (by simp <;> omega) (by intro g h; injection h with h; omega)
      obtain ⟨A3, n3, c3, rfl, hU3, _⟩ := hown3.form
      have hl3 := hU3.len
      rw [dgl_len] at hl3
      subst hl3
      have hmod := mod_any (cols_prod (a * b) hm31 hm32) A3 c3 w3.heap.size w3 hU3 (Nat.le_refl _)
      rw [dval_dgl, Nat.mod_eq_of_lt hTm, ← HV.out] at hmod
      have HMOD := Lib.hid hmod
      have HF3 := Lib.hid hF3
      clear hmod hF3 hU3 hown3 hg3 hown4 hTm hm2 HF HCAR
      go_wp2_with (fail)
      refine HMOD.out.mono ?_
      rintro e v2 ⟨rfl, hb⟩
      have hf := HF3.out.ext hb
      obtain ⟨old, hold, kR⟩ := hf.old (g := w.heap.size + 1 + 1) (t := 33) (n := 16) (by simp)
      have kS := kR.setRow_same (ds V)
      have hB2 := below_setRow hf.below (show w.heap.size ≤ w.heap.size + 1 + 1 by omega) (ds V)
      have hold' : old.size = (ds V).size := by rw [hold, ds_size]
      have HS := Lib.hid kS
      have HB2 := Lib.hid hB2
      have HO := Lib.hid hold'
      clear hb hf kS hB2 hold hold'
      go_wp2_with (first | (refine wpList_store_row rfl 33 (.tmp 4) (.tmp 38) rfl (w.heap.size + 1 + 1) (ds V) rfl rfl 33 old kR (info_ds V) HO.out (ds_one _) ?_))
      exact bodyPost_ret (results_cell_row rfl _ _ (w.heap.size + 1 + 1) 33 (ds V) (0, 0) _ rfl HS.out Tryd.underlying33 rfl (info_ds V)) rfl ⟨rfl, HB2.out⟩
end Go.Proofs.YtcijaoihcckofaaDoor
namespace Go.Proofs.YtcijaoihcckofaaDoor
set_option linter.unusedVariables false
set_option linter.unusedSimpArgs false
open Go Go.RowKit
/-- What Power has come to with n bits left. -/
def pn (x e n : Nat) : Nat := x ^ (e / 2 ^ n) % PP
theorem tmod_bit (x k : Nat) : ((x : Int) / 2 ^ k).tmod 2 = ((x / 2 ^ k % 2 : Nat) : Int) := by
  have h : (x : Int) / 2 ^ k = ((x / 2 ^ k : Nat) : Int) := by simp
  rw [h]
  generalize x / 2 ^ k = y
  rw [Int.tmod_eq_emod_of_nonneg (by omega)]
  omega
theorem pn_lt (x e n : Nat) : pn x e n < PP := Nat.mod_lt _ (by rw [PP_eq]; omega)
theorem pn_top (x e : Nat) (he : e < 2 ^ 256) : pn x e 256 = 1 := by
  unfold pn
  rw [Nat.div_eq_of_lt he, Nat.pow_zero, PP_eq]
theorem pn_zero (x e : Nat) : pn x e 0 = x ^ e % PP := by
  unfold pn
  rw [Nat.pow_zero, Nat.div_one]
theorem pn_half (e n : Nat) : e / 2 ^ n = 2 * (e / 2 ^ (n + 1)) + e / 2 ^ n % 2 := by
  rw [Nat.pow_succ, ← Nat.div_div_eq_div_mul]
  omega
theorem pn_no (x e n : Nat) (hb : e / 2 ^ n % 2 = 0) : pn x e (n + 1) * pn x e (n + 1) % PP = pn x e n := by
  unfold pn
  rw [pn_half e n, hb, Nat.add_zero, ← Nat.mul_mod, ← Nat.pow_add]
  congr 2
  omega
theorem pn_yes (x e n : Nat) (hb : e / 2 ^ n % 2 = 1) : pn x e (n + 1) * pn x e (n + 1) % PP * x % PP = pn x e n := by
  unfold pn
  rw [pn_half e n, hb, ← Nat.mul_mod, ← Nat.pow_add, Nat.mod_mul_mod, ← Nat.pow_succ]
  congr 2
  omega
set_option maxRecDepth 100000 in
set_option maxHeartbeats 2000000 in
theorem rpower_any (a e : Nat) (w : World) (ha : a < 115792089237316195423570985008687907853269984665640564039457584007913129639936) (he : e < 115792089237316195423570985008687907853269984665640564039457584007913129639936) :
    Calls Tryd.prog 81 #[.agg (ds a), .agg (ks e)] w (NumPost (a ^ e % PP) w) := by
  have hfr := (((Fr.start w).row (ds a) 33 (g := w.heap.size) rfl).row (ks e) 23 (g := w.heap.size + 1) (by simp)).any (ds 0) 33 16 (ds_size 0) (g := w.heap.size + 1 + 1) (by simp)
  rw [ds_zero] at hfr
  have htop := pn_top a e (by rw [show (2 : Nat) ^ 256 = 115792089237316195423570985008687907853269984665640564039457584007913129639936 by decide]; exact he)
  have hend := pn_zero a e
  have hmulA := fun r W h => rmul_any r a W h ha
  obtain ⟨V, hV⟩ : ∃ V, V = a ^ e % PP := ⟨_, rfl⟩
  rw [← hV] at hend ⊢
  have HFR := Lib.hid hfr
  have HTOP := Lib.hid htop
  have HEND := Lib.hid hend
  have HMA := Lib.hid hmulA
  clear hfr htop hend hmulA hV ha he
  go_enter Tryd.func81, Tryd.ntmps81
  go_wp2_with (fail)
  refine (rsmall_any 1 _ (by omega)).mono ?_
  rintro r v ⟨rfl, hb⟩
  have hf0 := HFR.out.ext hb
  have hf := hf0.row (ds 0) 33 (g := v.heap.size) rfl
  have ka := hf.get (g := v.heap.size) (t := 33) (cs := ds 0) (by simp)
  have hz1 : w.heap.size + 1 < v.heap.size := (hf0.get (g := w.heap.size + 1) (t := 23) (cs := ks e) (by simp)).lt
  have hz2 : w.heap.size + 1 + 1 < v.heap.size := by obtain ⟨cs, _, k⟩ := hf0.old (g := w.heap.size + 1 + 1) (t := 33) (n := 16) (by simp); exact k.lt
  have hf2 := hf.setRowHead (by simp <;> omega) (by simp <;> omega) (ds 1) (by omega)
  rw [ds_zero] at hf2 ka
  have hso : (#[.int .u64 0, .int .u64 0, .int .u64 0, .int .u64 0, .int .u64 0, .int .u64 0, .int .u64 0, .int .u64 0, .int .u64 0, .int .u64 0, .int .u64 0, .int .u64 0, .int .u64 0, .int .u64 0, .int .u64 0, .int .u64 0] : Array Value).size = (ds 1).size := by rw [ds_size]; rfl
  have KA := Lib.hid ka
  have HSO := Lib.hid hso
  have HF0 := Lib.hid hf2
  clear hb hf0 hf hf2 ka hso HFR
  go_wp2_with (first | (refine wpList_store_row rfl 33 (.tmp 5) (.tmp 7) rfl (v.heap.size) (ds 1) rfl rfl 33 _ KA.out (info_ds _) HSO.out (ds_one _) ?_))
  clear KA HSO
  generalize hgp : v.heap.size = gp at *
  have HGP := Lib.hid hgp
  clear hgp
  go_loopw [6] (fun c wr => ∃ n : Nat, n ≤ 256 ∧ c = .int .i64 ((n : Int) - 1) ∧ Fr w wr [(gp, 33, ds (pn a e n)), (w.heap.size + 1, 23, ks e), (w.heap.size, 33, ds a)] [(w.heap.size + 1 + 1, 33, 16)]) (fun c _ => (intOf c + 1).toNat)
  case atStart => exact ⟨256, by omega, rfl, by rw [HTOP.out]; exact HF0.out⟩
  case round =>
    obtain ⟨n, hn, rfl, hF⟩ := hrel
    clear HF0
    cases n with
    | succ n =>
      have hr := pn_lt a e (n + 1)
      have k5 := hF.get (g := gp) (t := 33) (cs := ds (pn a e (n + 1))) (by simp)
      have kk := hF.get (g := w.heap.size + 1) (t := 23) (cs := ks e) (by simp)
      have hc : ∀ W, Blk W (w.heap.size + 1) 23 (ks e) → W.cell? ⟨w.heap.size + 1, n / 8, none⟩ = some (.int .u8 ((e / 256 ^ (n / 8) % 256 : Nat) : Int)) := fun W h => by rw [h.cell, ks_get _ (by omega)]
      have hbt := bit_at e n
      have hno := pn_no a e n
      have hyes := pn_yes a e n
      have hxl : e / 256 ^ (n / 8) % 256 < 256 := Nat.mod_lt _ (by omega)
      have hPl := PP_lim
      have hsq := fun W => rmul_any (pn a e (n + 1)) (pn a e (n + 1)) W (by omega) (by omega)
      obtain ⟨r2, hq2⟩ : ∃ r2, r2 = pn a e (n + 1) * pn a e (n + 1) % PP := ⟨_, rfl⟩
      have hr2 : r2 < PP := by rw [hq2]; exact modPP_lt _
      have hma := fun W => HMA.out r2 W (by omega)
      rw [← hq2] at hsq hno hyes
      have HSQ := Lib.hid hsq
      have HM2 := Lib.hid hma
      have HN := Lib.hid hno
      have HY := Lib.hid hyes
      have HF := Lib.hid hF
      have HC := Lib.hid hc
      have e1 : ((n + 1 : Nat) : Int) - 1 = (n : Int) := by omega
      rw [e1]
      clear hq2 hsq hma hno hyes hF hc hr hr2 hPl e1
      generalize pn a e (n + 1) = r0 at *
      generalize e / 256 ^ (n / 8) % 256 = x at *
      have b1 : (0 : Int) ≤ (n : Int) / 8 := by omega
      have b2 : (n : Int) / 8 < 32 := by omega
      have b3 : ((n : Int) % 8) < 65 := by omega
      have b4 : (0 : Int) ≤ (n : Int) % 8 := by omega
      have b5 : decide ((0 : Int) ≤ (n : Int)) = true := decide_eq_true (by omega)
      have hw8 : IntKind.u64.wrap ((n : Int) % 8) = (n : Int) % 8 := by rw [IntKind.wrap_u64]; omega
      go_wp2_with (first | (refine wpList_load_row rfl 33 (.tmp 5) rfl gp rfl 33 (ds r0) (0, 0) _ k5 Tryd.underlying33 rfl (info_ds _) ?_))
      refine (HSQ.out _).mono ?_
      rintro r v1 ⟨rfl, hb⟩
      have f1 := HF.out.ext hb
      have k6 := f1.get (g := gp) (t := 33) (cs := ds r0) (by simp)
      have hz6 : (ds r0).size = (ds r2).size := by rw [ds_size, ds_size]
      have f2 := f1.setRowHead (by simp <;> omega) (by simp <;> omega) (ds r2) (by omega)
      have k7 := f2.get (g := w.heap.size + 1) (t := 23) (cs := ks e) (by simp)
      have cx := HC.out _ k7
      have F2 := Lib.hid f2
      have HZ6 := Lib.hid hz6
      clear f1 f2 hb k5 kk hz6 k7
      have hbb : x / 2 ^ (n % 8) % 2 = 0 ∨ x / 2 ^ (n % 8) % 2 = 1 := by omega
      rcases hbb with hbv | hbv
      · have hst := HN.out (by rw [← hbt]; exact hbv)
        have HST := Lib.hid hst
        have hbi : ((x : Int) / 2 ^ (n % 8)).tmod 2 = 0 := by rw [tmod_bit, hbv]; rfl
        clear hbv hst hbt HN HY
        go_wp2_with (first | (refine wpList_store_row rfl 33 (.tmp 5) (.tmp 14) rfl gp (ds r2) rfl rfl 33 (ds r0) k6 (info_ds _) HZ6.out (ds_one _) ?_))
        go_roundw
        case rel => exact ⟨n, by omega, rfl, by rw [← HST.out]; exact F2.out⟩
        case measure => simp [intOf] <;> omega
      · have hst := HY.out (by rw [← hbt]; exact hbv)
        have HST := Lib.hid hst
        have hbi : ((x : Int) / 2 ^ (n % 8)).tmod 2 = 1 := by rw [tmod_bit, hbv]; rfl
        clear hbv hst hbt HN HY
        have k8 := F2.out.get (g := gp) (t := 33) (cs := ds r2) (by simp)
        have k9 := F2.out.get (g := w.heap.size) (t := 33) (cs := ds a) (by simp)
        go_wp2_with (first | (refine wpList_store_row rfl 33 (.tmp 5) (.tmp 14) rfl gp (ds r2) rfl rfl 33 (ds r0) k6 (info_ds _) HZ6.out (ds_one _) ?_) | (refine wpList_load_row rfl 33 (.tmp 5) rfl gp rfl 33 (ds r2) (0, 0) _ k8 Tryd.underlying33 rfl (info_ds _) ?_) | (refine wpList_load_row rfl 33 (.tmp 2) rfl w.heap.size rfl 33 (ds a) (0, 0) _ k9 Tryd.underlying33 rfl (info_ds _) ?_))
        refine (HM2.out _).mono ?_
        rintro r v2 ⟨rfl, hb⟩
        rw [HST.out]
        have f3 := F2.out.ext hb
        have ka := f3.get (g := gp) (t := 33) (cs := ds r2) (by simp)
        have hza : (ds r2).size = (ds (pn a e n)).size := by rw [ds_size, ds_size]
        have f4 := f3.setRowHead (by simp <;> omega) (by simp <;> omega) (ds (pn a e n)) (by omega)
        have F4 := Lib.hid f4
        have KA := Lib.hid ka
        have HZA := Lib.hid hza
        clear f3 f4 hb k6 k8 k9 ka hza
        obtain ⟨r3, hr3⟩ : ∃ r3, r3 = pn a e n := ⟨_, rfl⟩
        rw [← hr3] at F4 HZA ⊢
        have HR3 := Lib.hid hr3
        clear hr3
        go_wp2_with (first | (refine wpList_store_row rfl 33 (.tmp 5) (.tmp 27) rfl gp (ds r3) rfl rfl 33 (ds r2) KA.out (info_ds _) HZA.out (ds_one _) ?_))
        go_roundw
        case rel => exact ⟨n, by omega, rfl, by rw [← HR3.out]; exact F4.out⟩
        case measure => simp [intOf] <;> omega
    | zero =>
      rw [HEND.out] at hF
      have kT := hF.get (g := gp) (t := 33) (cs := ds V) (by simp)
      obtain ⟨old, hold, kR⟩ := hF.old (g := w.heap.size + 1 + 1) (t := 33) (n := 16) (by simp)
      have kS := kR.setRow_same (ds V)
      have hB2 := below_setRow hF.below (show w.heap.size ≤ w.heap.size + 1 + 1 by omega) (ds V)
      have hold' : old.size = (ds V).size := by rw [hold, ds_size]
      have HS := Lib.hid kS
      have HB2 := Lib.hid hB2
      have HO := Lib.hid hold'
      clear hF kS hB2 hold hold'
      go_wp2_with (first | (refine wpList_load_row rfl 33 (.tmp 5) rfl gp rfl 33 (ds V) (0, 0) _ kT Tryd.underlying33 rfl (info_ds _) ?_) | (refine wpList_store_row rfl 33 (.tmp 4) (.tmp 28) rfl (w.heap.size + 1 + 1) (ds V) rfl rfl 33 old kR (info_ds _) HO.out (ds_one _) ?_))
      exact bodyPost_ret (results_cell_row rfl _ _ (w.heap.size + 1 + 1) 33 (ds V) (0, 0) _ rfl HS.out Tryd.underlying33 rfl (info_ds V)) rfl ⟨rfl, HB2.out⟩
end Go.Proofs.YtcijaoihcckofaaDoor
namespace Go.Proofs.YtcijaoihcckofaaDoor
set_option linter.unusedVariables false
set_option linter.unusedSimpArgs false
open Go Go.RowKit
/-- N, of which the first i digits are those of its half. -/
def hgl (N i : Nat) : List Nat := (List.range 16).map fun j => if j < i then N / 2 / 65536 ^ j % 65536 else N / 65536 ^ j % 65536
def hg (N i : Nat) : Array Value := ncs .u64 (hgl N i)
theorem hg_size (N i : Nat) : (hg N i).size = 16 := by simp [hg, hgl, ncs_size]
theorem hg_get (N i : Nat) {j : Nat} (h : j < 16) (hj : i ≤ j) : (hg N i)[j]? = some (.int .u64 ((N / 65536 ^ j % 65536 : Nat) : Int)) := by
  rw [hg, ncs_get]
  simp [hgl, h, Nat.not_lt.2 hj, nc_def]
theorem hg_zero (N : Nat) : hg N 0 = ds N := by simp [hg, hgl, ds, dg]
theorem hg_all (N : Nat) : hg N 16 = ds (N / 2) := by
  have h : hgl N 16 = dg (N / 2) := by
    unfold hgl dg
    apply List.map_congr_left
    intro j hj
    rw [if_pos (List.mem_range.1 hj)]
  exact congrArg (ncs .u64) h
theorem half_digit (N i : Nat) : N / 2 / 65536 ^ i % 65536 = N / 65536 ^ i % 65536 / 2 + N / 65536 ^ (i + 1) % 65536 % 2 * 32768 := by
  have h1 : N / 2 / 65536 ^ i = N / 65536 ^ i / 2 := by rw [Nat.div_div_eq_div_mul, Nat.div_div_eq_div_mul, Nat.mul_comm]
  have h2 : N / 65536 ^ (i + 1) = N / 65536 ^ i / 65536 := by rw [Nat.pow_succ, Nat.div_div_eq_div_mul]
  rw [h1, h2]
  generalize N / 65536 ^ i = M
  omega
theorem hg_step (N : Nat) {i : Nat} (h : i < 16) (x : Nat) (hx : x = N / 2 / 65536 ^ i % 65536) : (hg N i).setIfInBounds i (.int .u64 (x : Int)) = hg N (i + 1) := by
  subst hx
  rw [hg, ncs_set, hg]
  congr 1
  apply List.ext_getElem?
  intro t
  rw [List.getElem?_set]
  by_cases ht : t < 16
  · by_cases e : i = t
    · subst e
      simp [hgl, h]
    · have e2 : (t < i + 1) = (t < i) := by rw [eq_iff_iff]; omega
      simp [hgl, ht, e, e2]
  · have : i ≠ t := by omega
    simp [hgl, ht, this]
theorem set_set (a : Array Value) (i : Nat) (x y : Value) : (a.setIfInBounds i x).setIfInBounds i y = a.setIfInBounds i y := by
  simp
theorem top_digit {N : Nat} (h : N < 65536 ^ 16) : N / 65536 ^ (15 + 1) % 65536 = 0 := by rw [Nat.div_eq_of_lt h]
/-- p less a small number. -/
theorem ds_less {n : Nat} (h : n ≤ 18) : (ds PP).setIfInBounds 0 (.int .u64 ((65517 - n : Nat) : Int)) = ds (PP - n) := by
  rw [ds_put (by omega) (by omega)]
  congr 1
  have h1 := putd_eq 65536 PP 0 (65517 - n)
  have h2 : PP / 65536 ^ 0 % 65536 = 65517 := by decide +kernel
  rw [h2, Nat.pow_zero] at h1
  have h3 : 65517 ≤ PP := by rw [PP_eq]; omega
  omega
theorem ds_PP0 : (ds PP)[0]? = some (.int .u64 65517) := by kernel_rfl
set_option maxRecDepth 100000 in
set_option maxHeartbeats 4000000 in
theorem rminor_any (n t : Nat) (w : World) (hn : n ≤ 18) (ht : t ≤ 8) : Calls Tryd.prog 82 #[.int .u64 (n : Int), .int .i64 (t : Int)] w (KeyPost ((PP - n) / 2 ^ t) w) := by
  have hfr := (Fr.start w).any (ks 0) 23 32 (ks_size 0) (g := w.heap.size) rfl
  rw [ks_zero] at hfr
  have hls := ds_less hn
  obtain ⟨M, hM⟩ : ∃ M, M = PP - n := ⟨_, rfl⟩
  rw [← hM] at hls ⊢
  have hMl : M < 65536 ^ 16 := by rw [hM, d16]; have := PP_lim; omega
  have HFR := Lib.hid hfr
  have HLS := Lib.hid hls
  have HML := Lib.hid hMl
  clear hfr hls hM hMl
  go_enter Tryd.func82, Tryd.ntmps82
  go_wp2_with (fail)
  refine (rprime_any _).mono ?_
  rintro r v ⟨rfl, hb⟩
  have hf0 := HFR.out.ext hb
  have hz1 : w.heap.size < v.heap.size := by obtain ⟨cs, _, k⟩ := hf0.old (g := w.heap.size) (t := 23) (n := 32) (by simp); exact k.lt
  have hf := hf0.row (ds 0) 33 (g := v.heap.size) rfl
  have ka := hf.get (g := v.heap.size) (t := 33) (cs := ds 0) (by simp)
  have hf2 := hf.setRowHead (by simp <;> omega) (by simp <;> omega) (ds PP) (by omega)
  have kb := hf2.get (g := v.heap.size) (t := 33) (cs := ds PP) (by simp)
  have hc0 := kb.cell 0
  rw [ds_PP0] at hc0
  have hfz := kb.frozen 0
  have hf3 := hf2.setHead (by simp) (by simp <;> omega) 0 (.int .u64 ((65517 - n : Nat) : Int)) (by omega)
  rw [HLS.out] at hf3
  have hw : IntKind.u64.wrap (65517 - (n : Int)) = ((65517 - n : Nat) : Int) := by rw [IntKind.wrap_u64]; omega
  rw [ds_zero] at hf2 hf3 ka kb hc0 hfz
  have hso : (#[.int .u64 0, .int .u64 0, .int .u64 0, .int .u64 0, .int .u64 0, .int .u64 0, .int .u64 0, .int .u64 0, .int .u64 0, .int .u64 0, .int .u64 0, .int .u64 0, .int .u64 0, .int .u64 0, .int .u64 0, .int .u64 0] : Array Value).size = (ds PP).size := by rw [ds_size]; rfl
  have KA := Lib.hid ka
  have HSO := Lib.hid hso
  have HF0 := Lib.hid hf3
  clear hb hf0 hf hf2 hf3 ka kb hso HFR HLS
  go_wp2_with (first | (refine wpList_store_row rfl 33 (.tmp 5) (.tmp 8) rfl (v.heap.size) (ds PP) rfl rfl 33 _ KA.out (info_ds _) HSO.out (ds_one _) ?_))
  clear KA HSO hc0 hfz
  obtain ⟨gp, hgp⟩ : ∃ gp, gp = v.heap.size := ⟨_, rfl⟩
  simp only [← hgp] at hz1 HF0 ⊢
  clear hgp
  go_loopw [6] (fun i wr => ∃ j : Nat, j ≤ t ∧ i = .int .i64 j ∧ Fr w wr [(gp, 33, ds (M / 2 ^ j))] [(w.heap.size, 23, 32)]) (fun i _ => t - (intOf i).toNat)
  case atStart => exact ⟨0, by omega, rfl, by rw [Nat.pow_zero, Nat.div_one]; exact HF0.out⟩
  case round =>
    obtain ⟨j, hj, rfl, hF⟩ := hrel
    clear HF0
    by_cases hlt : j < t
    · obtain ⟨N, hN⟩ : ∃ N, N = M / 2 ^ j := ⟨_, rfl⟩
      rw [← hN] at hF
      have hNl : N < 65536 ^ 16 := by rw [hN]; exact Nat.lt_of_le_of_lt (Nat.div_le_self _ _) HML.out
      have hN2 : N / 2 = M / 2 ^ (j + 1) := by rw [hN, Nat.pow_succ, Nat.div_div_eq_div_mul]
      have HNL := Lib.hid hNl
      have HN2 := Lib.hid hN2
      rw [← hg_zero] at hF
      have HF := Lib.hid hF
      clear hNl hN2 hN hF
      have hdt : decide ((j : Int) < (t : Int)) = true := decide_eq_true (by omega)
      go_wp2_with (fail)
      try rw [decide_eq_true (show (j : Int) < (t : Int) by omega)]
      go_loopw [7] (fun i wq => ∃ k : Nat, k ≤ 16 ∧ i = .int .i64 k ∧ Fr w wq [(gp, 33, hg N k)] [(w.heap.size, 23, 32)]) (fun i _ => 16 - (intOf i).toNat)
      case atStart => exact ⟨0, by omega, rfl, HF.out⟩
      case round =>
        obtain ⟨k, hk, rfl, hF⟩ := hrel
        clear HF
        by_cases hkt : k < 16
        · have hD := hF.get (g := gp) (t := 33) (cs := hg N k) (by simp)
          have hf := hD.frozen k
          have ck : wr.cell? ⟨gp, k, none⟩ = some (.int .u64 ((N / 65536 ^ k % 65536 : Nat) : Int)) := by rw [hD.cell, hg_get _ _ hkt (Nat.le_refl _)]
          have hhd := half_digit N k
          have hstp := fun x hx => @hg_step N k hkt x hx
          have hx : N / 65536 ^ k % 65536 < 65536 := Nat.mod_lt _ (by omega)
          have hdt : decide ((k : Int) < 16) = true := decide_eq_true (by omega)
          have k16 : (k : Int) < 16 := by omega
          by_cases h15 : k < 15
          · have cn : wr.cell? ⟨gp, k + 1, none⟩ = some (.int .u64 ((N / 65536 ^ (k + 1) % 65536 : Nat) : Int)) := by rw [hD.cell, hg_get _ _ (by omega) (by omega)]
            have hy : N / 65536 ^ (k + 1) % 65536 < 65536 := Nat.mod_lt _ (by omega)
            have HHD := Lib.hid hhd
            have HST := Lib.hid hstp
            have HF := Lib.hid hF
            clear hhd hstp hF hD
            generalize N / 65536 ^ k % 65536 = x at *
            generalize N / 65536 ^ (k + 1) % 65536 = y at *
            obtain ⟨z, hz⟩ : ∃ z, z = x / 2 + y % 2 * 32768 := ⟨_, rfl⟩
            rw [← hz] at HHD
            have hst2 := HST.out z HHD.out.symm
            have hw1 : IntKind.u64.wrap ((y : Int) % 2 * 32768) = (y : Int) % 2 * 32768 := by rw [IntKind.wrap_u64]; omega
            have hw2 : IntKind.u64.wrap ((x : Int) / 2 + (y : Int) % 2 * 32768) = (z : Int) := by rw [IntKind.wrap_u64]; omega
            have hw3 : IntKind.i64.wrap ((k : Int) + 1) = (k : Int) + 1 := by rw [IntKind.wrap_i64]; omega
            have b0 : (0 : Int) ≤ (k : Int) + 1 := by omega
            have b1 : (k : Int) + 1 < 16 := by omega
            have b2 : ((k : Int) + 1).toNat = k + 1 := by omega
            have h15i : (k : Int) < 15 := by omega
            have hzI : (z : Int) = (x : Int) / 2 + (y : Int) % 2 * 32768 := by omega
            have HST2 := Lib.hid hst2
            clear hz hst2
            have hf1 := HF.out.setHead (by simp) (by simp <;> omega) k (.int .u64 ((x : Int) / 2)) (by omega)
            have kk1 := hf1.get (g := gp) (t := 33) (cs := (hg N k).setIfInBounds k (.int .u64 ((x : Int) / 2))) (by simp)
            have c1 : (wr.setCell ⟨gp, k, none⟩ (.int .u64 ((x : Int) / 2))).cell? ⟨gp, k, none⟩ = some (.int .u64 ((x : Int) / 2)) := by rw [kk1.cell]; simp [hg_size, hkt]
            have c2 : (wr.setCell ⟨gp, k, none⟩ (.int .u64 ((x : Int) / 2))).cell? ⟨gp, k + 1, none⟩ = some (.int .u64 (y : Int)) := by rw [World.cell?_setCell_other _ _ _ _ (by intro e; injection e with e1 e2; omega)]; exact cn
            have hf2 := kk1.frozen k
            have HF1 := Lib.hid hf1
            clear hf1 kk1
            go_wp2_with (fail)
            try rw [decide_eq_true (show (k : Int) < 15 by omega)]
            refine wp_region_held_drew (S := fun W => W.cell? ⟨gp, k + 1, none⟩ = some (.int .u64 (y : Int))) (by kernel_rfl) ?_ (fun hHeld => ?_)
            · exact c2
            refine wpAnyH_take (i := 0) (v := ?_) rfl (by kernel_rfl) (by kernel_rfl) (by kernel_rfl) (fun _ _ _ h => h) (Or.inl ⟨by rfl, ?_⟩) hHeld ?_
            rotate_left
            · (intro W hSw; (try dsimp only at hSw); (try simp only [List.getElem_toArray, List.getElem_cons_succ, List.getElem_cons_zero]); go_simp; try with_reducible rfl)
            try simp only [Act.put, List.getElem_toArray, List.getElem_cons_succ, List.getElem_cons_zero, List.setIfInBounds_toArray, List.set_cons_zero, List.set_cons_succ]
            refine wpAnyH_take (i := 1) (v := ?_) rfl (by kernel_rfl) (by kernel_rfl) (by kernel_rfl) (fun _ _ _ h => h) (Or.inl ⟨by rfl, ?_⟩) hHeld ?_
            rotate_left
            · (intro W hSw; (try dsimp only at hSw); (try simp only [List.getElem_toArray, List.getElem_cons_succ, List.getElem_cons_zero]); go_simp; try with_reducible rfl)
            try simp only [Act.put, List.getElem_toArray, List.getElem_cons_succ, List.getElem_cons_zero, List.setIfInBounds_toArray, List.set_cons_zero, List.set_cons_succ]
            refine wpAnyH_take (i := 2) (v := ?_) rfl (by kernel_rfl) (by kernel_rfl) (by kernel_rfl) (fun _ _ _ h => h) (Or.inl ⟨by rfl, ?_⟩) hHeld ?_
            rotate_left
            · (intro W hSw; (try dsimp only at hSw); (try simp only [List.getElem_toArray, List.getElem_cons_succ, List.getElem_cons_zero]); go_simp; try with_reducible rfl)
            try simp only [Act.put, List.getElem_toArray, List.getElem_cons_succ, List.getElem_cons_zero, List.setIfInBounds_toArray, List.set_cons_zero, List.set_cons_succ]
            refine wpAnyH_take (i := 4) (v := ?_) rfl (by kernel_rfl) (by kernel_rfl) (by kernel_rfl) (fun _ _ _ h => h) (Or.inl ⟨by rfl, ?_⟩) hHeld ?_
            rotate_left
            · (intro W hSw; (try dsimp only at hSw); (try simp only [List.getElem_toArray, List.getElem_cons_succ, List.getElem_cons_zero]); go_simp; try with_reducible rfl)
            try simp only [Act.put, List.getElem_toArray, List.getElem_cons_succ, List.getElem_cons_zero, List.setIfInBounds_toArray, List.set_cons_zero, List.set_cons_succ]
            refine wpAnyH_take (i := 5) (v := ?_) rfl (by kernel_rfl) (by kernel_rfl) (by kernel_rfl) (fun _ _ _ h => h) (Or.inl ⟨by rfl, ?_⟩) hHeld ?_
            rotate_left
            · (intro W hSw; (try dsimp only at hSw); (try simp only [List.getElem_toArray, List.getElem_cons_succ, List.getElem_cons_zero]); go_simp; try with_reducible rfl)
            try simp only [Act.put, List.getElem_toArray, List.getElem_cons_succ, List.getElem_cons_zero, List.setIfInBounds_toArray, List.set_cons_zero, List.set_cons_succ]
            refine wpAnyH_take (i := 6) (v := ?_) rfl (by kernel_rfl) (by kernel_rfl) (by kernel_rfl) (fun _ _ _ h => h) (Or.inl ⟨by rfl, ?_⟩) hHeld ?_
            rotate_left
            · (intro W hSw; (try dsimp only at hSw); (try simp only [List.getElem_toArray, List.getElem_cons_succ, List.getElem_cons_zero]); go_simp; try with_reducible rfl)
            try simp only [Act.put, List.getElem_toArray, List.getElem_cons_succ, List.getElem_cons_zero, List.setIfInBounds_toArray, List.set_cons_zero, List.set_cons_succ]
            refine wpAnyH_take (i := 7) (v := ?_) rfl (by kernel_rfl) (by kernel_rfl) (by kernel_rfl) (fun _ _ _ h => h) (Or.inl ⟨by rfl, ?_⟩) hHeld ?_
            rotate_left
            · (intro W hSw; (try dsimp only at hSw); (try simp only [List.getElem_toArray, List.getElem_cons_succ, List.getElem_cons_zero]); go_simp; try with_reducible rfl)
            try simp only [Act.put, List.getElem_toArray, List.getElem_cons_succ, List.getElem_cons_zero, List.setIfInBounds_toArray, List.set_cons_zero, List.set_cons_succ]
            refine wpAnyH_take (i := 8) (v := ?_) rfl (by kernel_rfl) (by kernel_rfl) (by kernel_rfl) (fun _ _ _ h => h) (Or.inl ⟨by rfl, ?_⟩) hHeld ?_
            rotate_left
            · (intro W hSw; (try dsimp only at hSw); (try simp only [List.getElem_toArray, List.getElem_cons_succ, List.getElem_cons_zero]); go_simp; try with_reducible rfl)
            try simp only [Act.put, List.getElem_toArray, List.getElem_cons_succ, List.getElem_cons_zero, List.setIfInBounds_toArray, List.set_cons_zero, List.set_cons_succ]
            refine wpAnyH_take (i := 9) (v := ?_) rfl (by kernel_rfl) (by kernel_rfl) (by kernel_rfl) (fun _ _ _ h => h) (Or.inl ⟨by rfl, ?_⟩) hHeld ?_
            rotate_left
            · (intro W hSw; (try dsimp only at hSw); (try simp only [List.getElem_toArray, List.getElem_cons_succ, List.getElem_cons_zero]); go_simp; try with_reducible rfl)
            try simp only [Act.put, List.getElem_toArray, List.getElem_cons_succ, List.getElem_cons_zero, List.setIfInBounds_toArray, List.set_cons_zero, List.set_cons_succ]
            refine wpAnyH_ready (rs := [3]) (by kernel_rfl) (by simp) (AllReadyH.cons rfl (fun K hK => ?_) AllReadyH.nil)
            have h0 := hHeld
            clear hHeld
            try simp only [List.getElem_toArray, List.getElem_cons_succ, List.getElem_cons_zero]
            go_simp
            refine hK.out _ _ (h0) (fun hHeld => ?_)
            clear hK K h0
            try simp only [Act.put, List.getElem_toArray, List.getElem_cons_succ, List.getElem_cons_zero, List.setIfInBounds_toArray, List.set_cons_zero, List.set_cons_succ]
            refine wpAnyH_take (i := 10) (v := ?_) rfl (by kernel_rfl) (by kernel_rfl) (by kernel_rfl) (fun _ _ _ h => h) (Or.inl ⟨by rfl, ?_⟩) hHeld ?_
            rotate_left
            · (intro W hSw; (try dsimp only at hSw); (try simp only [List.getElem_toArray, List.getElem_cons_succ, List.getElem_cons_zero]); go_simp; try with_reducible rfl)
            try simp only [Act.put, List.getElem_toArray, List.getElem_cons_succ, List.getElem_cons_zero, List.setIfInBounds_toArray, List.set_cons_zero, List.set_cons_succ]
            refine wpAnyH_take (i := 11) (v := ?_) rfl (by kernel_rfl) (by kernel_rfl) (by kernel_rfl) (fun _ _ _ h => h) (Or.inl ⟨by rfl, ?_⟩) hHeld ?_
            rotate_left
            · (intro W hSw; (try dsimp only at hSw); (try simp only [List.getElem_toArray, List.getElem_cons_succ, List.getElem_cons_zero]); go_simp; try with_reducible rfl)
            try simp only [Act.put, List.getElem_toArray, List.getElem_cons_succ, List.getElem_cons_zero, List.setIfInBounds_toArray, List.set_cons_zero, List.set_cons_succ]
            refine wpAnyH_ready (rs := [12]) (by kernel_rfl) (by simp) (AllReadyH.cons rfl (fun K hK => ?_) AllReadyH.nil)
            have h0 := hHeld
            clear hHeld
            try simp only [List.getElem_toArray, List.getElem_cons_succ, List.getElem_cons_zero]
            go_simp
            refine hK.out _ _ ((World.cell?_setCell_other _ _ _ _ (by intro e; injection e with e1 e2; omega)).trans h0) (fun hHeld => ?_)
            clear hK K h0
            try simp only [Act.put, List.getElem_toArray, List.getElem_cons_succ, List.getElem_cons_zero, List.setIfInBounds_toArray, List.set_cons_zero, List.set_cons_succ]
            refine wpAnyH_done (by kernel_rfl) ?_ _
            have hf3 := (HF1.out.setHead (by simp) (by simp <;> omega) k (.int .u64 (z : Int)) (by omega)).drew
            rw [set_set, HST2.out, hzI] at hf3
            have HF3 := Lib.hid hf3
            clear hf3 hHeld
            go_wp2_with (fail)
            go_roundw
            case rel => exact ⟨k + 1, by omega, by go_num, HF3.out⟩
            case measure => simp [intOf] <;> omega
          · obtain rfl : k = 15 := by omega
            rw [top_digit HNL.out, Nat.zero_mod, Nat.zero_mul, Nat.add_zero] at hhd
            have hst2 := hstp _ hhd.symm
            have HST2 := Lib.hid hst2
            clear hst2 hhd hstp
            generalize N / 65536 ^ 15 % 65536 = x at *
            have hf1 := hF.setHead (by simp) (by simp <;> omega) 15 (.int .u64 ((x / 2 : Nat) : Int)) (by omega)
            rw [HST2.out] at hf1
            have HF1 := Lib.hid hf1
            clear hf1 hF hD HST2
            simp only [show ((15 : Nat) : Int) = 15 from rfl]
            have hcst : ((x / 2 : Nat) : Int) = (x : Int) / 2 := by omega
            rw [hcst] at HF1
            clear hcst
            go_wp2_with (fail)
            go_roundw
            case rel => exact ⟨16, by omega, by go_num, HF1.out⟩
            case measure => simp [intOf] <;> omega
        · obtain rfl : k = 16 := by omega
          simp only [show ((16 : Nat) : Int) = 16 from rfl]
          rw [hg_all, HN2.out] at hF
          have HF := Lib.hid hF
          clear hF HN2
          go_wp2_with (fail)
          go_roundw
          case rel => exact ⟨j + 1, by omega, by go_num, HF.out⟩
          case measure => simp [intOf] <;> omega
    · obtain rfl : j = t := by omega
      have hNl : M / 2 ^ j < 115792089237316195423570985008687907853269984665640564039457584007913129639936 := by rw [← d16]; exact Nat.lt_of_le_of_lt (Nat.div_le_self _ _) HML.out
      obtain ⟨N, hN⟩ : ∃ N, N = M / 2 ^ j := ⟨_, rfl⟩
      rw [← hN] at hF hNl ⊢
      have hby := fun W => rbytes_any N W hNl
      have HBY := Lib.hid hby
      have kN := hF.get (g := gp) (t := 33) (cs := ds N) (by simp)
      have HF := Lib.hid hF
      have hdt : decide ((j : Int) < (j : Int)) = false := decide_eq_false (by omega)
      have HNE := Lib.hid hN
      clear hby hF hN hNl
      go_wp2_with (first | (refine wpList_load_row rfl 33 (.tmp 5) rfl gp rfl 33 (ds N) (0, 0) _ kN Tryd.underlying33 rfl (info_ds _) ?_))
      refine (HBY.out _).mono ?_
      rintro r v1 ⟨rfl, hb⟩
      have hf := HF.out.ext hb
      obtain ⟨old, hold, kR⟩ := hf.old (g := w.heap.size) (t := 23) (n := 32) (by simp)
      have kS := kR.setRow_same (ks N)
      have hB2 := below_setRow hf.below (Nat.le_refl _) (ks N)
      have hold' : old.size = (ks N).size := by rw [hold, ks_size]
      have HS := Lib.hid kS
      have HB2 := Lib.hid hB2
      have HO := Lib.hid hold'
      clear hb hf kS hB2 hold hold'
      go_wp2_with (first | (refine wpList_store_row rfl 23 (.tmp 4) (.tmp 44) rfl (w.heap.size) (ks N) rfl rfl 23 old kR (info_ks N) HO.out (ks_one _) ?_))
      rw [← HNE.out]
      exact key_end (g := w.heap.size) rfl rfl rfl HS.out HB2.out
set_option maxRecDepth 100000 in
set_option maxHeartbeats 2000000 in
theorem rinv_any (a : Nat) (w : World) (ha : a < 115792089237316195423570985008687907853269984665640564039457584007913129639936) : Calls Tryd.prog 51 #[.agg (ds a)] w (NumPost (a ^ (PP - 2) % PP) w) := by
  have hfr := ((Fr.start w).row (ds a) 33 (g := w.heap.size) rfl).any (ds 0) 33 16 (ds_size 0) (g := w.heap.size + 1) (by simp)
  rw [ds_zero] at hfr
  have hmi := fun W => rminor_any 2 0 W (by omega) (by omega)
  rw [Nat.pow_zero, Nat.div_one] at hmi
  have hpo := fun W => rpower_any a (PP - 2) W ha (by have := PP_lim; omega)
  obtain ⟨E, hE⟩ : ∃ E, E = PP - 2 := ⟨_, rfl⟩
  rw [← hE] at hmi hpo ⊢
  obtain ⟨V, hV⟩ : ∃ V, V = a ^ E % PP := ⟨_, rfl⟩
  rw [← hV] at hpo ⊢
  have HFR := Lib.hid hfr
  have HMI := Lib.hid hmi
  have HPO := Lib.hid hpo
  clear hfr hmi hpo hE hV ha
  go_enter Tryd.func51, Tryd.ntmps51
  go_wp2_with (fail)
  refine wp_region_held_drew (S := fun W => Fr w W [(w.heap.size, 33, ds a)] [(w.heap.size + 1, 33, 16)]) (by kernel_rfl) ?_ (fun hHeld => ?_)
  · exact HFR.out.drew
  refine wpAnyH_take (i := 0) (v := .agg (ds a)) rfl (by kernel_rfl) (by kernel_rfl) (by kernel_rfl) (fun _ _ _ h => h) (yields_row (by rfl) 33 (.tmp 1) rfl (w.heap.size) rfl 33 (ds a) _ (fun W (h : Fr _ W _ _) => h.get (by simp)) Tryd.underlying33 rfl (info_ds _)) hHeld ?_
  try simp only [Act.put, List.getElem_toArray, List.getElem_cons_succ, List.getElem_cons_zero, List.setIfInBounds_toArray, List.set_cons_zero, List.set_cons_succ]
  refine wpAnyH_ready (rs := [1]) (by kernel_rfl) (by simp) (AllReadyH.cons rfl (fun K hK => ?_) AllReadyH.nil)
  have h0 := hHeld
  clear hHeld
  try simp only [List.getElem_toArray, List.getElem_cons_succ, List.getElem_cons_zero]
  have H0 := Lib.hid h0
  clear h0
  go_simp
  go_at_call 82
  refine (HMI.out _).mono ?_
  rintro e vv ⟨rfl, hb⟩
  have h1 := H0.out.ext hb
  clear hb H0
  go_wp2_with (fail)
  refine hK.out _ _ h1 (fun hHeld => ?_)
  clear hK K h1
  try simp only [Act.put, List.getElem_toArray, List.getElem_cons_succ, List.getElem_cons_zero, List.setIfInBounds_toArray, List.set_cons_zero, List.set_cons_succ]
  refine wpAnyH_ready (rs := [2]) (by kernel_rfl) (by simp) (AllReadyH.cons rfl (fun K hK => ?_) AllReadyH.nil)
  have h0 := hHeld
  clear hHeld
  try simp only [List.getElem_toArray, List.getElem_cons_succ, List.getElem_cons_zero]
  have H0 := Lib.hid h0
  clear h0
  go_simp
  go_at_call 81
  refine (HPO.out _).mono ?_
  rintro e vv ⟨rfl, hb⟩
  have h1 := H0.out.ext hb
  clear hb H0
  go_wp2_with (fail)
  refine hK.out _ _ h1 (fun hHeld => ?_)
  clear hK K h1
  try simp only [Act.put, List.getElem_toArray, List.getElem_cons_succ, List.getElem_cons_zero, List.setIfInBounds_toArray, List.set_cons_zero, List.set_cons_succ]
  refine wpAnyH_ready (rs := [3]) (by kernel_rfl) (by simp) (AllReadyH.cons rfl (fun K hK => ?_) AllReadyH.nil)
  have h0 := hHeld
  clear hHeld
  try simp only [List.getElem_toArray, List.getElem_cons_succ, List.getElem_cons_zero]
  rw [if_pos (by rfl)]
  obtain ⟨old, hold, kold⟩ := Fr.old h0 (g := w.heap.size + 1) (t := 33) (n := 16) (by simp)
  refine wp_store_row 33 (.tmp 2) (.tmp 5) rfl (w.heap.size + 1) (ds V) rfl rfl 33 old kold (info_ds _) hold (ds_one _) ?_
  refine hK.out _ _ (Fr.setAny h0 (g := w.heap.size + 1) (t := 33) (ds_size _) (by simp) (by simp <;> omega)) (fun hHeld => ?_)
  have kb := kold.setRow_same (ds V)
  clear hK K h0 hold
  try simp only [Act.put, List.getElem_toArray, List.getElem_cons_succ, List.getElem_cons_zero, List.setIfInBounds_toArray, List.set_cons_zero, List.set_cons_succ]
  refine wpAnyH_done (by kernel_rfl) ?_ _
  have HK := Lib.hid kb
  have HF := Lib.hid hHeld
  clear kb hHeld
  go_wp2_with (fail)
  exact bodyPost_ret (results_cell_row rfl _ _ (w.heap.size + 1) 33 (ds V) (0, 0) _ rfl HK.out Tryd.underlying33 rfl (info_ds V)) rfl ⟨rfl, HF.out.below⟩
end Go.Proofs.YtcijaoihcckofaaDoor
namespace Go.Proofs.YtcijaoihcckofaaDoor
set_option linter.unusedVariables false
set_option linter.unusedSimpArgs false
open Go Go.RowKit
set_option maxRecDepth 100000 in
set_option maxHeartbeats 2000000 in
theorem radd_any (a b : Nat) (w : World) (ha : a < 115792089237316195423570985008687907853269984665640564039457584007913129639936) (hb : b < 115792089237316195423570985008687907853269984665640564039457584007913129639936) : Calls Tryd.prog 61 #[.agg (ds a), .agg (ds b)] w (NumPost ((a + b) % PP) w) := by
  have hfr := (((Fr.start w).row (ds a) 33 (g := w.heap.size) rfl).row (ds b) 33 (g := w.heap.size + 1) (by simp)).any (ds 0) 33 16 (ds_size 0) (g := w.heap.size + 1 + 1) (by simp)
  rw [ds_zero] at hfr
  have HFR := Lib.hid hfr
  have hda : dval (addl a b 16) = a + b := by rw [dval_addl, d16, Nat.mod_eq_of_lt ha, Nat.mod_eq_of_lt hb]
  have HDA := Lib.hid hda
  clear hfr ha hb hda
  obtain ⟨V, hV⟩ : ∃ V, V = (a + b) % PP := ⟨_, rfl⟩
  rw [← hV]
  have HV := Lib.hid hV
  clear hV
  go_enter Tryd.func61, Tryd.ntmps61
  go_wp2_with (fail)
  obtain ⟨wb, hwb⟩ : ∃ wb : World, wb = ((w.alloc (.cells (ds a) 33)).alloc (.cells (ds b) 33)).alloc (.cells #[.int .u64 0, .int .u64 0, .int .u64 0, .int .u64 0, .int .u64 0, .int .u64 0, .int .u64 0, .int .u64 0, .int .u64 0, .int .u64 0, .int .u64 0, .int .u64 0, .int .u64 0, .int .u64 0, .int .u64 0, .int .u64 0] 33) := ⟨_, rfl⟩
  rw [← hwb] at HFR ⊢
  clear hwb
  have hsb := HFR.out.size
  have hl0 : w.heap.size < wb.heap.size := (HFR.out.get (g := w.heap.size) (t := 33) (cs := ds a) (by simp)).lt
  have hl1 : w.heap.size + 1 < wb.heap.size := (HFR.out.get (g := w.heap.size + 1) (t := 33) (cs := ds b) (by simp)).lt
  have hl2 : w.heap.size + 1 + 1 < wb.heap.size := by obtain ⟨cs, _, k⟩ := HFR.out.old (g := w.heap.size + 1 + 1) (t := 33) (n := 16) (by simp); exact k.lt
  go_loopw [5, 6] (fun v i wq => ∃ j : Nat, j ≤ 16 ∧ i = .int .i64 j ∧ OwnU wq wb.heap.size 24 v (addl a b j) ∧ wb.heap.size ≤ wq.heap.size ∧ Fr w wq [(w.heap.size + 1, 33, ds b), (w.heap.size, 33, ds a)] [(w.heap.size + 1 + 1, 33, 16)]) (fun _ i _ => 16 - (intOf i).toNat)
  case atStart => exact ⟨0, by omega, rfl, OwnU.nil _ _ _, Nat.le_refl _, HFR.out⟩
  case round =>
    obtain ⟨j, hj, rfl, hO, hwq, hF⟩ := hrel
    clear HFR
    by_cases hlt : j < 16
    · have kA := hF.get (g := w.heap.size) (t := 33) (cs := ds a) (by simp)
      have kB := hF.get (g := w.heap.size + 1) (t := 33) (cs := ds b) (by simp)
      have ca : wr.cell? ⟨w.heap.size, j, none⟩ = some (.int .u64 ((a / 65536 ^ j % 65536 : Nat) : Int)) := by rw [kA.cell, ds_get _ hlt]
      have cb : wr.cell? ⟨w.heap.size + 1, j, none⟩ = some (.int .u64 ((b / 65536 ^ j % 65536 : Nat) : Int)) := by rw [kB.cell, ds_get _ hlt]
      have hx : a / 65536 ^ j % 65536 < 65536 := Nat.mod_lt _ (by omega)
      have hy : b / 65536 ^ j % 65536 < 65536 := Nat.mod_lt _ (by omega)
      have hst := addl_step a b j
      have hln := addl_len a b j
      have HST := Lib.hid hst
      have HF := Lib.hid hF
      have HLN := Lib.hid hln
      clear hst hF kA kB hln
      generalize a / 65536 ^ j % 65536 = x at *
      generalize b / 65536 ^ j % 65536 = y at *
      obtain ⟨z, hz⟩ : ∃ z, z = x + y := ⟨_, rfl⟩
      rw [← hz] at HST
      have hsum : IntKind.u64.wrap ((x : Int) + (y : Int)) = (z : Int) := by rw [IntKind.wrap_u64]; omega
      clear hz hx hy
      have hlq : w.heap.size + 1 < wr.heap.size := by omega
      have j16 : (j : Int) < 16 := by omega
      have hdt : decide ((j : Int) < 16) = true := decide_eq_true (by omega)
      go_wp2_with (fail)
      refine wp_region_held_drew (S := fun W => (W.cell? ⟨w.heap.size, j, none⟩ = some (.int .u64 (x : Int)) ∧ W.cell? ⟨w.heap.size + 1, j, none⟩ = some (.int .u64 (y : Int))) ∧ w.heap.size + 1 < W.heap.size) (by kernel_rfl) ?_ (fun hHeld => ?_)
      · exact ⟨⟨ca, cb⟩, hlq⟩
      refine wpAnyH_take (i := 0) (v := ?_) rfl (by kernel_rfl) (by kernel_rfl) (by kernel_rfl) (fun _ _ _ h => h) (Or.inl ⟨by rfl, ?_⟩) hHeld ?_
      rotate_left
      · (intro W hSw; (try dsimp only at hSw); (try simp only [List.getElem_toArray, List.getElem_cons_succ, List.getElem_cons_zero]); go_simp; try with_reducible rfl)
      try simp only [Act.put, List.getElem_toArray, List.getElem_cons_succ, List.getElem_cons_zero, List.setIfInBounds_toArray, List.set_cons_zero, List.set_cons_succ]
      refine wpAnyH_take (i := 1) (v := ?_) rfl (by kernel_rfl) (by kernel_rfl) (by kernel_rfl) (fun _ _ _ h => h) (Or.inl ⟨by rfl, ?_⟩) hHeld ?_
      rotate_left
      · (intro W hSw; (try dsimp only at hSw); (try simp only [List.getElem_toArray, List.getElem_cons_succ, List.getElem_cons_zero]); go_simp; try with_reducible rfl)
      try simp only [Act.put, List.getElem_toArray, List.getElem_cons_succ, List.getElem_cons_zero, List.setIfInBounds_toArray, List.set_cons_zero, List.set_cons_succ]
      refine wpAnyH_take (i := 2) (v := ?_) rfl (by kernel_rfl) (by kernel_rfl) (by kernel_rfl) (fun _ _ _ h => h) (Or.inl ⟨by rfl, ?_⟩) hHeld ?_
      rotate_left
      · (intro W hSw; (try dsimp only at hSw); (try simp only [List.getElem_toArray, List.getElem_cons_succ, List.getElem_cons_zero]); go_simp; try with_reducible rfl)
      try simp only [Act.put, List.getElem_toArray, List.getElem_cons_succ, List.getElem_cons_zero, List.setIfInBounds_toArray, List.set_cons_zero, List.set_cons_succ]
      refine wpAnyH_take (i := 3) (v := ?_) rfl (by kernel_rfl) (by kernel_rfl) (by kernel_rfl) (fun _ _ _ h => h) (Or.inl ⟨by rfl, ?_⟩) hHeld ?_
      rotate_left
      · (intro W hSw; (try dsimp only at hSw); (try simp only [List.getElem_toArray, List.getElem_cons_succ, List.getElem_cons_zero]); go_simp; try with_reducible rfl)
      try simp only [Act.put, List.getElem_toArray, List.getElem_cons_succ, List.getElem_cons_zero, List.setIfInBounds_toArray, List.set_cons_zero, List.set_cons_succ]
      refine wpAnyH_take (i := 4) (v := ?_) rfl (by kernel_rfl) (by kernel_rfl) (by kernel_rfl) (fun _ _ _ h => h) (Or.inl ⟨by rfl, ?_⟩) hHeld ?_
      rotate_left
      · (intro W hSw; (try dsimp only at hSw); (try simp only [List.getElem_toArray, List.getElem_cons_succ, List.getElem_cons_zero]); go_simp; try with_reducible rfl)
      try simp only [Act.put, List.getElem_toArray, List.getElem_cons_succ, List.getElem_cons_zero, List.setIfInBounds_toArray, List.set_cons_zero, List.set_cons_succ]
      refine wpAnyH_take (i := 5) (v := ?_) rfl (by kernel_rfl) (by kernel_rfl) (by kernel_rfl) (fun _ _ _ h => h) (Or.inl ⟨by rfl, ?_⟩) hHeld ?_
      rotate_left
      · (intro W hSw; (try dsimp only at hSw); (try simp only [List.getElem_toArray, List.getElem_cons_succ, List.getElem_cons_zero]); go_simp; try with_reducible rfl)
      try simp only [Act.put, List.getElem_toArray, List.getElem_cons_succ, List.getElem_cons_zero, List.setIfInBounds_toArray, List.set_cons_zero, List.set_cons_succ]
      refine wpAnyH_take (i := 6) (v := ?_) rfl (by kernel_rfl) (by kernel_rfl) (by kernel_rfl) (fun _ _ _ h => h) (Or.inl ⟨by rfl, ?_⟩) hHeld ?_
      rotate_left
      · (intro W hSw; (try dsimp only at hSw); (try simp only [List.getElem_toArray, List.getElem_cons_succ, List.getElem_cons_zero]); go_simp; try with_reducible rfl)
      try simp only [Act.put, List.getElem_toArray, List.getElem_cons_succ, List.getElem_cons_zero, List.setIfInBounds_toArray, List.set_cons_zero, List.set_cons_succ]
      refine wpAnyH_take (i := 7) (v := ?_) rfl (by kernel_rfl) (by kernel_rfl) (by kernel_rfl) (fun _ _ _ h => h) (Or.inl ⟨by rfl, ?_⟩) hHeld ?_
      rotate_left
      · (intro W hSw; (try dsimp only at hSw); (try simp only [List.getElem_toArray, List.getElem_cons_succ, List.getElem_cons_zero]); go_simp; try with_reducible rfl)
      try simp only [Act.put, List.getElem_toArray, List.getElem_cons_succ, List.getElem_cons_zero, List.setIfInBounds_toArray, List.set_cons_zero, List.set_cons_succ]
      refine wpAnyH_ready (rs := [8]) (by kernel_rfl) (by simp) (AllReadyH.cons rfl (fun K hK => ?_) AllReadyH.nil)
      have h0 := hHeld
      clear hHeld
      try simp only [List.getElem_toArray, List.getElem_cons_succ, List.getElem_cons_zero]
      go_simp
      refine hK.out _ _ (⟨⟨(World.cell?_alloc_lt _ _ _ (by simp <;> omega)).trans h0.1.1, (World.cell?_alloc_lt _ _ _ (by simp <;> omega)).trans h0.1.2⟩, by simp <;> omega⟩) (fun hHeld => ?_)
      clear hK K h0
      try simp only [Act.put, List.getElem_toArray, List.getElem_cons_succ, List.getElem_cons_zero, List.setIfInBounds_toArray, List.set_cons_zero, List.set_cons_succ]
      refine wpAnyH_ready (rs := [9]) (by kernel_rfl) (by simp) (AllReadyH.cons rfl (fun K hK => ?_) AllReadyH.nil)
      have h0 := hHeld
      clear hHeld
      refine step_app_ownU rfl (.tmp 11) (.tmp 19) 86 rfl 24 Tryd.underlying86 info_u64 wb.heap.size u5 (addl a b j) rfl ((hO.drew).alloc _) (wr.heap.size + 1) 1 1 (some ⟨wr.heap.size, 0, none⟩) [z] rfl (us_newv wr.drew 24 _ z rfl) (by rw [HLN.out]; simp <;> omega) (by simp <;> omega) ?_
      intro v1 w1 hown1 hg1 hat1
      have HOW := Lib.hid hown1
      have HG := Lib.hid hg1
      have hs1 := hg1.size
      clear hown1 hat1
      have hne : ∀ k, k < wb.heap.size → some k ≠ u5.ownBlock := fun k hk e => by have := (World.ownsRow.lt hO k e.symm).1; omega
      refine hK.out _ _ (⟨⟨(World.cell?_of_block (hg1.block w.heap.size (by simp <;> omega) (hne _ hl0))).trans h0.1.1, (World.cell?_of_block (hg1.block (w.heap.size + 1) (by simp <;> omega) (hne _ hl1))).trans h0.1.2⟩, by simp at hs1; omega⟩) (fun hHeld => ?_)
      clear hK K h0 hg1
      try simp only [Act.put, List.getElem_toArray, List.getElem_cons_succ, List.getElem_cons_zero, List.setIfInBounds_toArray, List.set_cons_zero, List.set_cons_succ]
      refine wpAnyH_take (i := 10) (v := ?_) rfl (by kernel_rfl) (by kernel_rfl) (by kernel_rfl) (fun _ _ _ h => h) (Or.inl ⟨by rfl, ?_⟩) hHeld ?_
      rotate_left
      · (intro W hSw; (try dsimp only at hSw); (try simp only [List.getElem_toArray, List.getElem_cons_succ, List.getElem_cons_zero]); go_simp; try with_reducible rfl)
      try simp only [Act.put, List.getElem_toArray, List.getElem_cons_succ, List.getElem_cons_zero, List.setIfInBounds_toArray, List.set_cons_zero, List.set_cons_succ]
      refine wpAnyH_done (by kernel_rfl) ?_ _
      have hF2 := ((HF.out.drew).pass (.cells #[.int .u64 (z : Int)] 24)).grow (by have := HG.out; exact this) (fun p hp e => by simp at hp; rcases hp with rfl | rfl <;> exact hne _ (by assumption) e) (fun p hp e => by simp at hp; subst hp; exact hne _ hl2 e) (fun g hg => by have := (World.ownsRow.lt hO g hg).1; omega)
      have HF2 := Lib.hid hF2
      clear hF2
      go_wp2_with (fail)
      go_roundw
      case rel => exact ⟨j + 1, by omega, by go_num, by rw [HST.out]; exact HOW.out, by simp at hs1; omega, HF2.out⟩
      case measure => simp [intOf] <;> omega
    · obtain rfl : j = 16 := by omega
      obtain ⟨A9, n9, c9, rfl, hU, _⟩ := hO.form
      have hl := hU.len
      rw [addl_len] at hl
      subst hl
      have hmod := mod_any (cols_addl a b) A9 c9 wr.heap.size wr hU (Nat.le_refl _)
      rw [HDA.out, ← HV.out] at hmod
      have HMOD := Lib.hid hmod
      have HF := Lib.hid hF
      clear hmod hF hO hU
      go_wp2_with (fail)
      refine HMOD.out.mono ?_
      rintro e v2 ⟨rfl, hb⟩
      have hf := HF.out.ext hb
      obtain ⟨old, hold, kR⟩ := hf.old (g := w.heap.size + 1 + 1) (t := 33) (n := 16) (by simp)
      have kS := kR.setRow_same (ds V)
      have hB2 := below_setRow hf.below (show w.heap.size ≤ w.heap.size + 1 + 1 by omega) (ds V)
      have hold' : old.size = (ds V).size := by rw [hold, ds_size]
      have HS := Lib.hid kS
      have HB2 := Lib.hid hB2
      have HO := Lib.hid hold'
      clear hb hf kS hB2 hold hold'
      go_wp2_with (first | (refine wpList_store_row rfl 33 (.tmp 4) (.tmp 22) rfl (w.heap.size + 1 + 1) (ds V) rfl rfl 33 old kR (info_ds V) HO.out (ds_one _) ?_))
      exact bodyPost_ret (results_cell_row rfl _ _ (w.heap.size + 1 + 1) 33 (ds V) (0, 0) _ rfl HS.out Tryd.underlying33 rfl (info_ds V)) rfl ⟨rfl, HB2.out⟩
end Go.Proofs.YtcijaoihcckofaaDoor
namespace Go.Proofs.YtcijaoihcckofaaDoor
set_option linter.unusedVariables false
set_option linter.unusedSimpArgs false
open Go Go.RowKit
set_option maxRecDepth 100000 in
set_option maxHeartbeats 2000000 in
theorem rneg_any (a : Nat) (w : World) (ha : a < 115792089237316195423570985008687907853269984665640564039457584007913129639936) : Calls Tryd.prog 48 #[.agg (ds a)] w (NumPost ((PP - a % PP) % PP) w) := by
  have hfr := ((Fr.start w).row (ds a) 33 (g := w.heap.size) rfl).any (ds 0) 33 16 (ds_size 0) (g := w.heap.size + 1) (by simp)
  rw [ds_zero] at hfr
  have hus := us_ds (hfr.get (g := w.heap.size) (t := 33) (cs := ds a) (by simp)) (B := w.heap.size + 1) (by omega)
  obtain ⟨m, hm⟩ : ∃ m, m = a % PP := ⟨_, rfl⟩
  have hml : m < PP := by rw [hm]; exact modPP_lt a
  obtain ⟨r, hr⟩ : ∃ r, r = PP - m := ⟨_, rfl⟩
  obtain ⟨V, hV⟩ : ∃ V, V = r % PP := ⟨_, rfl⟩
  have hrl : r < 65536 ^ 16 := by rw [hr, d16]; have := PP_lim; omega
  have hmod := fun W hu => mod_dgl a 16 (by omega) (by omega) (by rw [d16]; exact ha) (some ⟨w.heap.size, 0, none⟩) 16 (w.heap.size + 1) W hu
  rw [← hm] at hmod ⊢
  rw [← hr, ← hV]
  have hmin := fun W => rminus_any PP m W PP_lim (by omega)
  rw [← hr] at hmin
  have hmod2 := fun A c B W => mod_dgl r 16 (by omega) (by omega) hrl A c B W
  rw [← hV] at hmod2
  have HFR := Lib.hid hfr
  have HUS := Lib.hid hus
  have HMOD := Lib.hid hmod
  have HMIN := Lib.hid hmin
  have HMOD2 := Lib.hid hmod2
  clear hfr hus hmod hmin hmod2 hV hr hm hml hrl ha
  go_enter Tryd.func48, Tryd.ntmps48
  go_wp2_with (fail)
  refine (HMOD.out _ HUS.out (by simp)).mono ?_
  rintro e v1 ⟨rfl, hb⟩
  have hf := HFR.out.ext hb
  have k0 := hf.get (g := w.heap.size) (t := 33) (cs := ds a) (by simp)
  have hz0 : (ds a).size = (ds m).size := by rw [ds_size, ds_size]
  have hf1 := (Fr.setOut (hf.sub (L' := []) (R' := [(w.heap.size + 1, 33, 16)]) (by simp) (by simp)) (g := w.heap.size) (Nat.le_refl _) (by simp) (by simp) (ds m)).more (k0.setRow_same (ds m))
  have HF1 := Lib.hid hf1
  have HZ0 := Lib.hid hz0
  clear hb hf hf1 hz0
  go_wp2_with (first | (refine wpList_store_row rfl 33 (.tmp 1) (.tmp 4) rfl (w.heap.size) (ds m) rfl rfl 33 (ds a) k0 (info_ds m) HZ0.out (ds_one _) ?_))
  clear k0
  refine wp_region_held_drew (S := fun W => Fr w W [(w.heap.size, 33, ds m)] [(w.heap.size + 1, 33, 16)]) (by kernel_rfl) ?_ (fun hHeld => ?_)
  · exact HF1.out.drew
  refine wpAnyH_take (i := 1) (v := .agg (ds m)) rfl (by kernel_rfl) (by kernel_rfl) (by kernel_rfl) (fun _ _ _ h => h) (yields_row (by rfl) 33 (.tmp 1) rfl (w.heap.size) rfl 33 (ds m) _ (fun W (h : Fr _ W _ _) => h.get (by simp)) Tryd.underlying33 rfl (info_ds _)) hHeld ?_
  try simp only [Act.put, List.getElem_toArray, List.getElem_cons_succ, List.getElem_cons_zero, List.setIfInBounds_toArray, List.set_cons_zero, List.set_cons_succ]
  refine wpAnyH_ready (rs := [0]) (by kernel_rfl) (by simp) (AllReadyH.cons rfl (fun K hK => ?_) AllReadyH.nil)
  have h0 := hHeld
  clear hHeld
  try simp only [List.getElem_toArray, List.getElem_cons_succ, List.getElem_cons_zero]
  have H0 := Lib.hid h0
  clear h0
  go_simp
  go_at_call 55
  refine (rprime_any _).mono ?_
  rintro e vv ⟨rfl, hb⟩
  have h1 := H0.out.ext hb
  clear hb H0
  go_wp2_with (fail)
  refine hK.out _ _ h1 (fun hHeld => ?_)
  clear hK K h1
  try simp only [Act.put, List.getElem_toArray, List.getElem_cons_succ, List.getElem_cons_zero, List.setIfInBounds_toArray, List.set_cons_zero, List.set_cons_succ]
  refine wpAnyH_ready (rs := [2]) (by kernel_rfl) (by simp) (AllReadyH.cons rfl (fun K hK => ?_) AllReadyH.nil)
  have h0 := hHeld
  clear hHeld
  try simp only [List.getElem_toArray, List.getElem_cons_succ, List.getElem_cons_zero]
  have H0 := Lib.hid h0
  clear h0
  go_simp
  go_at_call 79
  refine (HMIN.out _).mono ?_
  rintro e vv ⟨rfl, hb⟩
  have h1 := H0.out.ext hb
  clear hb H0
  go_wp2_with (fail)
  refine hK.out _ _ h1 (fun hHeld => ?_)
  clear hK K h1
  try simp only [Act.put, List.getElem_toArray, List.getElem_cons_succ, List.getElem_cons_zero, List.setIfInBounds_toArray, List.set_cons_zero, List.set_cons_succ]
  refine wpAnyH_ready (rs := [3]) (by kernel_rfl) (by simp) (AllReadyH.cons rfl (fun K hK => ?_) AllReadyH.nil)
  have h0 := hHeld
  clear hHeld
  try simp only [List.getElem_toArray, List.getElem_cons_succ, List.getElem_cons_zero]
  have H0 := Lib.hid h0
  clear h0
  go_simp
  go_at_call 78
  refine (rall_any r _).mono ?_
  rintro e vv ⟨A9, c9, rfl, hu, hb⟩
  have HU9 := Lib.hid hu
  clear hu
  have h1 := H0.out.ext hb
  clear hb H0
  go_wp2_with (fail)
  refine hK.out _ _ h1 (fun hHeld => ?_)
  clear hK K h1
  try simp only [Act.put, List.getElem_toArray, List.getElem_cons_succ, List.getElem_cons_zero, List.setIfInBounds_toArray, List.set_cons_zero, List.set_cons_succ]
  refine wpAnyH_ready (rs := [4]) (by kernel_rfl) (by simp) (AllReadyH.cons rfl (fun K hK => ?_) AllReadyH.nil)
  have h0 := hHeld
  clear hHeld
  try simp only [List.getElem_toArray, List.getElem_cons_succ, List.getElem_cons_zero]
  have H0 := Lib.hid h0
  clear h0
  go_simp
  go_at_call 77
  refine (HMOD2.out A9 c9 _ _ HU9.out (Nat.le_refl _)).mono ?_
  rintro e vv ⟨rfl, hb⟩
  have h1 := H0.out.ext hb
  clear hb H0
  go_wp2_with (fail)
  refine hK.out _ _ h1 (fun hHeld => ?_)
  clear hK K h1
  try simp only [Act.put, List.getElem_toArray, List.getElem_cons_succ, List.getElem_cons_zero, List.setIfInBounds_toArray, List.set_cons_zero, List.set_cons_succ]
  refine wpAnyH_ready (rs := [5]) (by kernel_rfl) (by simp) (AllReadyH.cons rfl (fun K hK => ?_) AllReadyH.nil)
  have h0 := hHeld
  clear hHeld
  try simp only [List.getElem_toArray, List.getElem_cons_succ, List.getElem_cons_zero]
  rw [if_pos (by rfl)]
  obtain ⟨old, hold, kold⟩ := Fr.old h0 (g := w.heap.size + 1) (t := 33) (n := 16) (by simp)
  refine wp_store_row 33 (.tmp 2) (.tmp 9) rfl (w.heap.size + 1) (ds V) rfl rfl 33 old kold (info_ds _) hold (ds_one _) ?_
  refine hK.out _ _ (Fr.setAny h0 (g := w.heap.size + 1) (t := 33) (ds_size _) (by simp) (by simp <;> omega)) (fun hHeld => ?_)
  have kb := kold.setRow_same (ds V)
  clear hK K h0 hold
  try simp only [Act.put, List.getElem_toArray, List.getElem_cons_succ, List.getElem_cons_zero, List.setIfInBounds_toArray, List.set_cons_zero, List.set_cons_succ]
  refine wpAnyH_done (by kernel_rfl) ?_ _
  have HK := Lib.hid kb
  have HF := Lib.hid hHeld
  clear kb hHeld
  go_wp2_with (fail)
  exact bodyPost_ret (results_cell_row rfl _ _ (w.heap.size + 1) 33 (ds V) (0, 0) _ rfl HK.out Tryd.underlying33 rfl (info_ds V)) rfl ⟨rfl, HF.out.below⟩
end Go.Proofs.YtcijaoihcckofaaDoor
namespace Go.Proofs.YtcijaoihcckofaaDoor
set_option linter.unusedVariables false
set_option linter.unusedSimpArgs false
open Go Go.RowKit
set_option maxRecDepth 100000 in
set_option maxHeartbeats 2000000 in
theorem rsub_any (a b : Nat) (w : World) (ha : a < 115792089237316195423570985008687907853269984665640564039457584007913129639936) (hb : b < 115792089237316195423570985008687907853269984665640564039457584007913129639936) : Calls Tryd.prog 62 #[.agg (ds a), .agg (ds b)] w (NumPost ((a + (PP - b % PP) % PP) % PP) w) := by
  have hfr := (((Fr.start w).row (ds a) 33 (g := w.heap.size) rfl).row (ds b) 33 (g := w.heap.size + 1) (by simp)).any (ds 0) 33 16 (ds_size 0) (g := w.heap.size + 1 + 1) (by simp)
  rw [ds_zero] at hfr
  have hneg := fun W => rneg_any b W hb
  have hadd := fun W => radd_any a ((PP - b % PP) % PP) W ha (by have := modPP_lt (PP - b % PP); have := PP_lim; omega)
  obtain ⟨c, hc⟩ : ∃ c, c = (PP - b % PP) % PP := ⟨_, rfl⟩
  rw [← hc] at hneg hadd ⊢
  obtain ⟨V, hV⟩ : ∃ V, V = (a + c) % PP := ⟨_, rfl⟩
  rw [← hV] at hadd ⊢
  have HFR := Lib.hid hfr
  have HNEG := Lib.hid hneg
  have HADD := Lib.hid hadd
  clear hfr hneg hadd hV hc ha hb
  go_enter Tryd.func62, Tryd.ntmps62
  go_wp2_with (fail)
  refine wp_region_held_drew (S := fun W => Fr w W [(w.heap.size + 1, 33, ds b), (w.heap.size, 33, ds a)] [(w.heap.size + 1 + 1, 33, 16)]) (by kernel_rfl) ?_ (fun hHeld => ?_)
  · exact HFR.out.drew
  refine wpAnyH_take (i := 0) (v := .agg (ds a)) rfl (by kernel_rfl) (by kernel_rfl) (by kernel_rfl) (fun _ _ _ h => h) (yields_row (by rfl) 33 (.tmp 2) rfl (w.heap.size) rfl 33 (ds a) _ (fun W (h : Fr _ W _ _) => h.get (by simp)) Tryd.underlying33 rfl (info_ds _)) hHeld ?_
  try simp only [Act.put, List.getElem_toArray, List.getElem_cons_succ, List.getElem_cons_zero, List.setIfInBounds_toArray, List.set_cons_zero, List.set_cons_succ]
  refine wpAnyH_take (i := 1) (v := .agg (ds b)) rfl (by kernel_rfl) (by kernel_rfl) (by kernel_rfl) (fun _ _ _ h => h) (yields_row (by rfl) 33 (.tmp 3) rfl (w.heap.size + 1) rfl 33 (ds b) _ (fun W (h : Fr _ W _ _) => h.get (by simp)) Tryd.underlying33 rfl (info_ds _)) hHeld ?_
  try simp only [Act.put, List.getElem_toArray, List.getElem_cons_succ, List.getElem_cons_zero, List.setIfInBounds_toArray, List.set_cons_zero, List.set_cons_succ]
  refine wpAnyH_ready (rs := [2]) (by kernel_rfl) (by simp) (AllReadyH.cons rfl (fun K hK => ?_) AllReadyH.nil)
  have h0 := hHeld
  clear hHeld
  try simp only [List.getElem_toArray, List.getElem_cons_succ, List.getElem_cons_zero]
  have H0 := Lib.hid h0
  clear h0
  go_simp
  go_at_call 48
  refine (HNEG.out _).mono ?_
  rintro e vv ⟨rfl, hb⟩
  have h1 := H0.out.ext hb
  clear hb H0
  go_wp2_with (fail)
  refine hK.out _ _ h1 (fun hHeld => ?_)
  clear hK K h1
  try simp only [Act.put, List.getElem_toArray, List.getElem_cons_succ, List.getElem_cons_zero, List.setIfInBounds_toArray, List.set_cons_zero, List.set_cons_succ]
  refine wpAnyH_ready (rs := [3]) (by kernel_rfl) (by simp) (AllReadyH.cons rfl (fun K hK => ?_) AllReadyH.nil)
  have h0 := hHeld
  clear hHeld
  try simp only [List.getElem_toArray, List.getElem_cons_succ, List.getElem_cons_zero]
  have H0 := Lib.hid h0
  clear h0
  go_simp
  go_at_call 61
  refine (HADD.out _).mono ?_
  rintro e vv ⟨rfl, hb⟩
  have h1 := H0.out.ext hb
  clear hb H0
  go_wp2_with (fail)
  refine hK.out _ _ h1 (fun hHeld => ?_)
  clear hK K h1
  try simp only [Act.put, List.getElem_toArray, List.getElem_cons_succ, List.getElem_cons_zero, List.setIfInBounds_toArray, List.set_cons_zero, List.set_cons_succ]
  refine wpAnyH_ready (rs := [4]) (by kernel_rfl) (by simp) (AllReadyH.cons rfl (fun K hK => ?_) AllReadyH.nil)
  have h0 := hHeld
  clear hHeld
  try simp only [List.getElem_toArray, List.getElem_cons_succ, List.getElem_cons_zero]
  rw [if_pos (by rfl)]
  obtain ⟨old, hold, kold⟩ := Fr.old h0 (g := w.heap.size + 1 + 1) (t := 33) (n := 16) (by simp)
  refine wp_store_row 33 (.tmp 4) (.tmp 8) rfl (w.heap.size + 1 + 1) (ds V) rfl rfl 33 old kold (info_ds _) hold (ds_one _) ?_
  refine hK.out _ _ (Fr.setAny h0 (g := w.heap.size + 1 + 1) (t := 33) (ds_size _) (by simp) (by simp <;> omega)) (fun hHeld => ?_)
  have kb := kold.setRow_same (ds V)
  clear hK K h0 hold
  try simp only [Act.put, List.getElem_toArray, List.getElem_cons_succ, List.getElem_cons_zero, List.setIfInBounds_toArray, List.set_cons_zero, List.set_cons_succ]
  refine wpAnyH_done (by kernel_rfl) ?_ _
  have HK := Lib.hid kb
  have HF := Lib.hid hHeld
  clear kb hHeld
  go_wp2_with (fail)
  exact bodyPost_ret (results_cell_row rfl _ _ (w.heap.size + 1 + 1) 33 (ds V) (0, 0) _ rfl HK.out Tryd.underlying33 rfl (info_ds V)) rfl ⟨rfl, HF.out.below⟩
end Go.Proofs.YtcijaoihcckofaaDoor
namespace Go.Proofs.YtcijaoihcckofaaDoor
set_option linter.unusedVariables false
set_option linter.unusedSimpArgs false
open Go.RowKit
/-- A number's digits, of a number modulo p. -/
def dv (x : Fin PP) : Array Value := ds x.val
theorem dv_size (x : Fin PP) : (dv x).size = 16 := ds_size _
theorem dv_one (x : Fin PP) : (dv x).all (·.oneCell') = true := ds_one _
theorem info_dv (x : Fin PP) : (Tryd.prog.info? 33).map (·.size) = some (dv x).size := info_ds _
def DPost (x : Fin PP) (w : World) (e : Ending) (w' : World) : Prop := e = .returned (.agg (dv x)) ∧ Below w.heap.size w w'
theorem lim {x : Fin PP} : x.val < 115792089237316195423570985008687907853269984665640564039457584007913129639936 := by have := x.isLt; have := PP_lim; omega
theorem npost {n : Nat} {x : Fin PP} (h : n = x.val) {w : World} {e : Ending} {w' : World} (hp : NumPost n w e w') : DPost x w e w' := by subst h; exact hp
theorem neg_neg_sub (x y : Fin PP) : x - y = x + -y := by grind
section
variable {x y z : Fin PP}
theorem addD' (h : z = x + y) (w : World) : Calls Tryd.prog 61 #[.agg (dv x), .agg (dv y)] w (DPost z w) :=
  (radd_any x.val y.val w lim lim).mono fun e w' hp => npost (by rw [h, Fin.val_add]) hp
theorem negD (h : z = -x) (w : World) : Calls Tryd.prog 48 #[.agg (dv x)] w (DPost z w) :=
  (rneg_any x.val w lim).mono fun e w' hp => npost (by rw [h, Fin.val_neg', Nat.mod_eq_of_lt x.isLt]) hp
theorem subD (h : z = x - y) (w : World) : Calls Tryd.prog 62 #[.agg (dv x), .agg (dv y)] w (DPost z w) :=
  (rsub_any x.val y.val w lim lim).mono fun e w' hp => npost (by rw [h, neg_neg_sub, Fin.val_add, Fin.val_neg', Nat.mod_eq_of_lt y.isLt]) hp
theorem mulD (h : z = x * y) (w : World) : Calls Tryd.prog 49 #[.agg (dv x), .agg (dv y)] w (DPost z w) :=
  (rmul_any x.val y.val w lim lim).mono fun e w' hp => npost (by rw [h, Fin.val_mul]) hp
theorem powerD {e : Nat} (h : z = x ^ e) (he : e < 115792089237316195423570985008687907853269984665640564039457584007913129639936) (w : World) : Calls Tryd.prog 81 #[.agg (dv x), .agg (ks e)] w (DPost z w) :=
  (rpower_any x.val e w lim he).mono fun r w' hp => npost (by rw [h, fp_pow_val]) hp
theorem invD (h : z = x ^ (PP - 2)) (w : World) : Calls Tryd.prog 51 #[.agg (dv x)] w (DPost z w) :=
  (rinv_any x.val w lim).mono fun r w' hp => npost (by rw [h, fp_pow_val]) hp
theorem bytesD (x : Fin PP) (w : World) : Calls Tryd.prog 17 #[.agg (dv x)] w (KeyPost x.val w) := rbytes_any x.val w lim
theorem smallD (n : Nat) (h : z = sm n) (hn : n < 18446744073709551616) (w : World) : Calls Tryd.prog 50 #[.int .u64 (n : Int)] w (DPost z w) :=
  (rsmall_any n w hn).mono fun r w' hp => npost (by
    rw [h]
    show n = n % PP
    rw [Nat.mod_eq_of_lt (by rw [PP_eq]; omega)]) hp
theorem dv_zero : dv 0 = ds 0 := rfl
end
end Go.Proofs.YtcijaoihcckofaaDoor
namespace Go.Proofs.YtcijaoihcckofaaDoor
set_option linter.unusedVariables false
set_option linter.unusedSimpArgs false
open Go.RowKit
theorem ks_put {n k x : Nat} (hk : k < 32) (hx : x < 256) : (ks n).setIfInBounds k (.int .u8 (x : Int)) = ks (putd 256 n k x) := by
  rw [ks, ncs_set, ks]
  congr 1
  apply List.ext_getElem?
  intro j
  rw [List.getElem?_set]
  by_cases hj : j < 32
  · rw [kb_get (putd 256 n k x) hj, digit_put (by omega) hx (putd_eq 256 n k x) j]
    by_cases e : k = j
    · subst e
      rw [if_pos rfl, if_pos rfl, kb_len, if_pos hk]
    · rw [if_neg e, if_neg (fun h => e h.symm), kb_get n hj]
  · have : k ≠ j := by omega
    rw [if_neg this, List.getElem?_eq_none (by rw [kb_len]; omega), List.getElem?_eq_none (by rw [kb_len]; omega)]
/-- The lowest 255 bits. -/
theorem put_top {n : Nat} (hn : n < 115792089237316195423570985008687907853269984665640564039457584007913129639936) : putd 256 n 31 (n / 256 ^ 31 % 256 % 128) = n % 57896044618658097711785492504343953926634992332820282019728792003956564819968 := by
  have h := putd_eq 256 n 31 (n / 256 ^ 31 % 256 % 128)
  have e : (256 : Nat) ^ 31 = 452312848583266388373324160190187140051835877600158453279131187530910662656 := by decide
  rw [e] at h ⊢
  omega
end Go.Proofs.YtcijaoihcckofaaDoor
