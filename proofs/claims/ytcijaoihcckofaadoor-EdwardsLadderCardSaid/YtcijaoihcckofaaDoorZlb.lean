/- Words, contracts and walks (Ed, Ld, Lx, Et, Er, Eb, Ls, Dg, Rd, Uw, Ca, Mp, Rn, Mo, Rmi, Rz, Kt, Fi, Fkn, Lk, Lm, Frt, Pv, Pw, Rro, Rv, Sl, Sr, La, Lb6), laid together. No condition. -/
import Derived.Test.YtcijaoihcckofaaDoorZla
import Derived.Deep.MidRow
import Derived.Deep.RegionLaw
import Derived.Maps.AppendAt
import Derived.Laws.OwnMore
import Derived.Deep.DeepCutAuto
import Derived.Deep.CutBlock
import Derived.Deep.RegionWith
namespace Go.Proofs.YtcijaoihcckofaaDoor
set_option linter.unusedVariables false
set_option linter.unusedSimpArgs false
section
variable {p : Nat} [NeZero p]
/-- An inverse. -/
def iv (a : Fin p) : Fin p := a ^ (p - 2)
/-- What is asked of a curve's number d. -/
structure EdOk (d : Fin p) : Prop where
  prime : IsPrime p
  nosq : ∀ z : Fin p, z * z ≠ d
  two : ∀ z : Fin p, z + z = 0 → z = 0
theorem iv_mul {a : Fin p} (hp : IsPrime p) (h : a ≠ 0) : a * iv a = 1 := fp_inv hp h
theorem iv_prod (a b : Fin p) : iv (a * b) = iv a * iv b := fq_mul_pow a b _
theorem EdOk.p3 {d : Fin p} (hd : EdOk d) : 3 ≤ p := by
  have h1 := hd.prime.1
  apply Nat.le_of_not_lt
  intro h
  have h2 : (1 : Fin p) = 0 := hd.two 1 (by
    apply Fin.ext
    show (1 % p + 1 % p) % p = 0 % p
    have : p = 2 := by omega
    subst this
    rfl)
  exact fp_one_ne hd.prime h2
/-- A point. -/
def OnE (d : Fin p) (P : Fin p × Fin p) : Prop := P.1 * P.1 + P.2 * P.2 = 1 + d * (P.1 * P.1) * (P.2 * P.2)
/-- The sum of two points. -/
def eadd (d : Fin p) (P Q : Fin p × Fin p) : Fin p × Fin p :=
  ((P.1 * Q.2 + P.2 * Q.1) * iv (1 + d * P.1 * Q.1 * P.2 * Q.2), (P.2 * Q.2 - P.1 * Q.1) * iv (1 - d * P.1 * Q.1 * P.2 * Q.2))
def eneg (P : Fin p × Fin p) : Fin p × Fin p := (-P.1, P.2)
def enil : Fin p × Fin p := (0, 1)
theorem no_sq {d s r : Fin p} (hd : EdOk d) (hr : r ≠ 0) : s * s ≠ d * (r * r) := by
  intro h
  apply hd.nosq (s * iv r)
  have := iv_mul hd.prime hr
  generalize iv r = q at *
  grind
theorem whole1 {d x1 y1 x2 y2 z : Fin p} (hd : EdOk d) (h1 : x1 * x1 + y1 * y1 = 1 + d * (x1 * x1) * (y1 * y1)) (h2 : x2 * x2 + y2 * y2 = 1 + d * (x2 * x2) * (y2 * y2)) (hz : z * z = 1) : d * x1 * x2 * y1 * y2 ≠ z := by
  intro h
  have hone := fp_one_ne hd.prime
  have hz0 : z ≠ 0 := by intro e; subst e; exact hone (by grind)
  have hr : x1 * y1 ≠ 0 := by intro e; exact hz0 (by rw [← h]; grind)
  have a1 : (x1 + z * y1) * (x1 + z * y1) = d * ((x1 * y1 * (x2 + y2)) * (x1 * y1 * (x2 + y2))) := by grind
  have a2 : (x1 - z * y1) * (x1 - z * y1) = d * ((x1 * y1 * (x2 - y2)) * (x1 * y1 * (x2 - y2))) := by grind
  have b1 : x2 + y2 = 0 := by
    apply Classical.byContradiction
    intro hn
    refine no_sq hd (r := x1 * y1 * (x2 + y2)) ?_ a1
    intro e
    rcases fp_nz hd.prime e with e | e
    · exact hr e
    · exact hn e
  have b2 : x2 - y2 = 0 := by
    apply Classical.byContradiction
    intro hn
    refine no_sq hd (r := x1 * y1 * (x2 - y2)) ?_ a2
    intro e
    rcases fp_nz hd.prime e with e | e
    · exact hr e
    · exact hn e
  have b3 : x2 = 0 := hd.two x2 (by grind)
  exact hz0 (by rw [← h, b3]; grind)
/-- Nothing is ever divided by nought. -/
theorem whole {d : Fin p} {P Q : Fin p × Fin p} (hd : EdOk d) (hP : OnE d P) (hQ : OnE d Q) : 1 + d * P.1 * Q.1 * P.2 * Q.2 ≠ 0 ∧ 1 - d * P.1 * Q.1 * P.2 * Q.2 ≠ 0 := by
  constructor
  · intro h
    exact whole1 hd hP hQ (z := -1) (by grind) (by grind)
  · intro h
    exact whole1 hd hP hQ (z := 1) (by grind) (by grind)
/-- What the sum's numbers are, with nothing divided. -/
theorem eadd_eq {d : Fin p} {P Q : Fin p × Fin p} (hd : EdOk d) (hP : OnE d P) (hQ : OnE d Q) :
    (eadd d P Q).1 * (1 + d * P.1 * Q.1 * P.2 * Q.2) = P.1 * Q.2 + P.2 * Q.1 ∧ (eadd d P Q).2 * (1 - d * P.1 * Q.1 * P.2 * Q.2) = P.2 * Q.2 - P.1 * Q.1 := by
  obtain ⟨h1, h2⟩ := whole hd hP hQ
  have e1 := iv_mul hd.prime h1
  have e2 := iv_mul hd.prime h2
  unfold eadd
  dsimp only
  generalize iv (1 + d * P.1 * Q.1 * P.2 * Q.2) = i at *
  generalize iv (1 - d * P.1 * Q.1 * P.2 * Q.2) = j at *
  constructor <;> grind
theorem clos_ (d x1 y1 x2 y2 : Fin p) (h1 : x1 * x1 + y1 * y1 = 1 + d * (x1 * x1) * (y1 * y1)) (h2 : x2 * x2 + y2 * y2 = 1 + d * (x2 * x2) * (y2 * y2)) :
    (x1 * y2 + y1 * x2) * (x1 * y2 + y1 * x2) * ((1 - d * x1 * x2 * y1 * y2) * (1 - d * x1 * x2 * y1 * y2)) + (y1 * y2 - x1 * x2) * (y1 * y2 - x1 * x2) * ((1 + d * x1 * x2 * y1 * y2) * (1 + d * x1 * x2 * y1 * y2)) = (1 - d * x1 * x2 * y1 * y2) * (1 - d * x1 * x2 * y1 * y2) * ((1 + d * x1 * x2 * y1 * y2) * (1 + d * x1 * x2 * y1 * y2)) + d * ((x1 * y2 + y1 * x2) * (x1 * y2 + y1 * x2)) * ((y1 * y2 - x1 * x2) * (y1 * y2 - x1 * x2)) := by
  grind
theorem mul_ne {a b : Fin p} (hp : IsPrime p) (ha : a ≠ 0) (hb : b ≠ 0) : a * b ≠ 0 := by
  intro e
  rcases fp_nz hp e with e | e
  · exact ha e
  · exact hb e
theorem on_add {d : Fin p} {P Q : Fin p × Fin p} (hd : EdOk d) (hP : OnE d P) (hQ : OnE d Q) : OnE d (eadd d P Q) := by
  obtain ⟨h1, h2⟩ := whole hd hP hQ
  obtain ⟨e1, e2⟩ := eadd_eq hd hP hQ
  have hc := clos_ d P.1 P.2 Q.1 Q.2 hP hQ
  unfold OnE
  generalize (eadd d P Q).1 = x at *
  generalize (eadd d P Q).2 = y at *
  generalize 1 + d * P.1 * Q.1 * P.2 * Q.2 = s at *
  generalize 1 - d * P.1 * Q.1 * P.2 * Q.2 = t at *
  generalize P.1 * Q.2 + P.2 * Q.1 = A at *
  generalize P.2 * Q.2 - P.1 * Q.1 = B at *
  subst e1 e2
  refine fp_cancel hd.prime (mul_ne hd.prime (mul_ne hd.prime h2 h2) (mul_ne hd.prime h1 h1)) ?_
  grind
theorem eadd_comm (d : Fin p) (P Q : Fin p × Fin p) : eadd d P Q = eadd d Q P := by
  unfold eadd
  congr 1
  · congr 1
    · grind
    · congr 1; grind
  · congr 1
    · grind
    · congr 1; grind
theorem ascx (d x1 y1 x2 y2 x3 y3 A B D A' B' D' : Fin p) (h1 : x1 * x1 + y1 * y1 = 1 + d * (x1 * x1) * (y1 * y1)) (h2 : x2 * x2 + y2 * y2 = 1 + d * (x2 * x2) * (y2 * y2)) (h3 : x3 * x3 + y3 * y3 = 1 + d * (x3 * x3) * (y3 * y3))
    (hA : A = x1 * y2 + y1 * x2) (hB : B = y1 * y2 - x1 * x2) (hD : D = d * x1 * x2 * y1 * y2) (hA' : A' = x2 * y3 + y2 * x3) (hB' : B' = y2 * y3 - x2 * x3) (hD' : D' = d * x2 * x3 * y2 * y3) :
    (A * (1 - D) * y3 + B * (1 + D) * x3) * ((1 - D' * D') + d * A' * B' * x1 * y1) = (x1 * B' * (1 + D') + y1 * A' * (1 - D')) * ((1 - D * D) + d * A * B * x3 * y3) := by
  subst hA hB hD hA' hB' hD'
  grind
theorem ascy (d x1 y1 x2 y2 x3 y3 A B D A' B' D' : Fin p) (h1 : x1 * x1 + y1 * y1 = 1 + d * (x1 * x1) * (y1 * y1)) (h2 : x2 * x2 + y2 * y2 = 1 + d * (x2 * x2) * (y2 * y2)) (h3 : x3 * x3 + y3 * y3 = 1 + d * (x3 * x3) * (y3 * y3))
    (hA : A = x1 * y2 + y1 * x2) (hB : B = y1 * y2 - x1 * x2) (hD : D = d * x1 * x2 * y1 * y2) (hA' : A' = x2 * y3 + y2 * x3) (hB' : B' = y2 * y3 - x2 * x3) (hD' : D' = d * x2 * x3 * y2 * y3) :
    (B * (1 + D) * y3 - A * (1 - D) * x3) * ((1 - D' * D') - d * A' * B' * x1 * y1) = (y1 * B' * (1 + D') - x1 * A' * (1 - D')) * ((1 - D * D) - d * A * B * x3 * y3) := by
  subst hA hB hD hA' hB' hD'
  grind
theorem asc_x (x d u v D r s : Fin p) (h : x * (1 + d * u * r * v * s) = u * s + v * r) : x * ((1 - D * D) + d * (u * (1 + D)) * (v * (1 - D)) * r * s) = u * (1 + D) * (1 - D) * s + v * (1 - D) * (1 + D) * r := by
  have := congrArg (· * ((1 + D) * (1 - D))) h
  grind
theorem asc_y (x d u v D r s : Fin p) (h : x * (1 - d * u * r * v * s) = v * s - u * r) : x * ((1 - D * D) - d * (u * (1 + D)) * (v * (1 - D)) * r * s) = v * (1 - D) * (1 + D) * s - u * (1 + D) * (1 - D) * r := by
  have := congrArg (· * ((1 + D) * (1 - D))) h
  grind
theorem asc_x' (x d u v D r s : Fin p) (h : x * (1 + d * r * u * s * v) = r * v + s * u) : x * ((1 - D * D) + d * (u * (1 + D)) * (v * (1 - D)) * r * s) = r * (v * (1 - D)) * (1 + D) + s * (u * (1 + D)) * (1 - D) := by
  have := congrArg (· * ((1 + D) * (1 - D))) h
  grind
theorem asc_y' (x d u v D r s : Fin p) (h : x * (1 - d * r * u * s * v) = s * v - r * u) : x * ((1 - D * D) - d * (u * (1 + D)) * (v * (1 - D)) * r * s) = s * (v * (1 - D)) * (1 + D) - r * (u * (1 + D)) * (1 - D) := by
  have := congrArg (· * ((1 + D) * (1 - D))) h
  grind
theorem asc_n (d u v D r s : Fin p) : (1 - D * D) + d * (u * (1 + D)) * (v * (1 - D)) * r * s = (1 + D) * (1 - D) * (1 + d * u * r * v * s) ∧ (1 - D * D) - d * (u * (1 + D)) * (v * (1 - D)) * r * s = (1 + D) * (1 - D) * (1 - d * u * r * v * s) ∧ (1 - D * D) + d * (u * (1 + D)) * (v * (1 - D)) * r * s = (1 + D) * (1 - D) * (1 + d * r * u * s * v) ∧ (1 - D * D) - d * (u * (1 + D)) * (v * (1 - D)) * r * s = (1 + D) * (1 - D) * (1 - d * r * u * s * v) := by
  refine ⟨?_, ?_, ?_, ?_⟩ <;> grind
theorem eadd_assoc {d : Fin p} {P Q R : Fin p × Fin p} (hd : EdOk d) (hP : OnE d P) (hQ : OnE d Q) (hR : OnE d R) : eadd d (eadd d P Q) R = eadd d P (eadd d Q R) := by
  have hPQ := on_add hd hP hQ
  have hQR := on_add hd hQ hR
  obtain ⟨s1, t1⟩ := whole hd hP hQ
  obtain ⟨s2, t2⟩ := whole hd hQ hR
  obtain ⟨s3, t3⟩ := whole hd hPQ hR
  obtain ⟨s4, t4⟩ := whole hd hP hQR
  obtain ⟨a1, b1⟩ := eadd_eq hd hP hQ
  obtain ⟨a2, b2⟩ := eadd_eq hd hQ hR
  obtain ⟨a3, b3⟩ := eadd_eq hd hPQ hR
  obtain ⟨a4, b4⟩ := eadd_eq hd hP hQR
  have hx := ascx d P.1 P.2 Q.1 Q.2 R.1 R.2 _ _ _ _ _ _ hP hQ hR rfl rfl rfl rfl rfl rfl
  have hy := ascy d P.1 P.2 Q.1 Q.2 R.1 R.2 _ _ _ _ _ _ hP hQ hR rfl rfl rfl rfl rfl rfl
  have hp := hd.prime
  clear hPQ hQR hP hQ hR
  apply Prod.ext
  · clear b3 b4 hy t3 t4
    generalize (eadd d (eadd d P Q) R).1 = x at *
    generalize (eadd d P (eadd d Q R)).1 = x' at *
    generalize (eadd d P Q).1 = u at *
    generalize (eadd d P Q).2 = v at *
    generalize (eadd d Q R).1 = u' at *
    generalize (eadd d Q R).2 = v' at *
    generalize P.1 * Q.2 + P.2 * Q.1 = A at *
    generalize P.2 * Q.2 - P.1 * Q.1 = B at *
    generalize Q.1 * R.2 + Q.2 * R.1 = A' at *
    generalize Q.2 * R.2 - Q.1 * R.1 = B' at *
    generalize d * P.1 * Q.1 * P.2 * Q.2 = D at *
    generalize d * Q.1 * R.1 * Q.2 * R.2 = D' at *
    have e3 : x * ((1 - D * D) + d * A * B * R.1 * R.2) = A * (1 - D) * R.2 + B * (1 + D) * R.1 := by rw [← a1, ← b1]; exact asc_x x d u v D R.1 R.2 a3
    have e4 : x' * ((1 - D' * D') + d * A' * B' * P.1 * P.2) = P.1 * B' * (1 + D') + P.2 * A' * (1 - D') := by rw [← a2, ← b2]; exact asc_x' x' d u' v' D' P.1 P.2 a4
    have n3 : (1 - D * D) + d * A * B * R.1 * R.2 ≠ 0 := by
      have : (1 - D * D) + d * A * B * R.1 * R.2 = (1 + D) * (1 - D) * (1 + d * u * R.1 * v * R.2) := by rw [← a1, ← b1]; exact (asc_n d u v D R.1 R.2).1
      rw [this]
      exact mul_ne hp (mul_ne hp s1 t1) s3
    have n4 : (1 - D' * D') + d * A' * B' * P.1 * P.2 ≠ 0 := by
      have : (1 - D' * D') + d * A' * B' * P.1 * P.2 = (1 + D') * (1 - D') * (1 + d * P.1 * u' * P.2 * v') := by rw [← a2, ← b2]; exact (asc_n d u' v' D' P.1 P.2).2.2.1
      rw [this]
      exact mul_ne hp (mul_ne hp s2 t2) s4
    clear a1 a2 b1 b2 a3 a4 s1 s2 s3 s4 t1 t2
    generalize (1 - D * D) + d * A * B * R.1 * R.2 = E at *
    generalize (1 - D' * D') + d * A' * B' * P.1 * P.2 = E' at *
    rw [← e3, ← e4] at hx
    refine fp_cancel hp (mul_ne hp n3 n4) ?_
    clear e3 e4 n3 n4
    grind
  · clear a3 a4 hx s3 s4
    generalize (eadd d (eadd d P Q) R).2 = x at *
    generalize (eadd d P (eadd d Q R)).2 = x' at *
    generalize (eadd d P Q).1 = u at *
    generalize (eadd d P Q).2 = v at *
    generalize (eadd d Q R).1 = u' at *
    generalize (eadd d Q R).2 = v' at *
    generalize P.1 * Q.2 + P.2 * Q.1 = A at *
    generalize P.2 * Q.2 - P.1 * Q.1 = B at *
    generalize Q.1 * R.2 + Q.2 * R.1 = A' at *
    generalize Q.2 * R.2 - Q.1 * R.1 = B' at *
    generalize d * P.1 * Q.1 * P.2 * Q.2 = D at *
    generalize d * Q.1 * R.1 * Q.2 * R.2 = D' at *
    have e3 : x * ((1 - D * D) - d * A * B * R.1 * R.2) = B * (1 + D) * R.2 - A * (1 - D) * R.1 := by rw [← a1, ← b1]; exact asc_y x d u v D R.1 R.2 b3
    have e4 : x' * ((1 - D' * D') - d * A' * B' * P.1 * P.2) = P.2 * B' * (1 + D') - P.1 * A' * (1 - D') := by rw [← a2, ← b2]; exact asc_y' x' d u' v' D' P.1 P.2 b4
    have n3 : (1 - D * D) - d * A * B * R.1 * R.2 ≠ 0 := by
      have : (1 - D * D) - d * A * B * R.1 * R.2 = (1 + D) * (1 - D) * (1 - d * u * R.1 * v * R.2) := by rw [← a1, ← b1]; exact (asc_n d u v D R.1 R.2).2.1
      rw [this]
      exact mul_ne hp (mul_ne hp s1 t1) t3
    have n4 : (1 - D' * D') - d * A' * B' * P.1 * P.2 ≠ 0 := by
      have : (1 - D' * D') - d * A' * B' * P.1 * P.2 = (1 + D') * (1 - D') * (1 - d * P.1 * u' * P.2 * v') := by rw [← a2, ← b2]; exact (asc_n d u' v' D' P.1 P.2).2.2.2
      rw [this]
      exact mul_ne hp (mul_ne hp s2 t2) t4
    clear a1 a2 b1 b2 b3 b4 s1 s2 t3 t4 t1 t2
    generalize (1 - D * D) - d * A * B * R.1 * R.2 = E at *
    generalize (1 - D' * D') - d * A' * B' * P.1 * P.2 = E' at *
    rw [← e3, ← e4] at hy
    refine fp_cancel hp (mul_ne hp n3 n4) ?_
    clear e3 e4 n3 n4
    grind
theorem on_nil (d : Fin p) : OnE d enil := by unfold OnE enil; dsimp only; grind
theorem on_neg {d : Fin p} {P : Fin p × Fin p} (h : OnE d P) : OnE d (eneg P) := by unfold OnE eneg at *; dsimp only; grind
theorem iv_one : iv (1 : Fin p) = 1 := fq_one_pow _
theorem eadd_nil (d : Fin p) (P : Fin p × Fin p) : eadd d P enil = P := by
  unfold eadd enil
  dsimp only
  have e1 : 1 + d * P.1 * 0 * P.2 * 1 = 1 := by grind
  have e2 : 1 - d * P.1 * 0 * P.2 * 1 = 1 := by grind
  rw [e1, e2, iv_one]
  apply Prod.ext <;> dsimp only <;> grind
theorem nil_eadd (d : Fin p) (P : Fin p × Fin p) : eadd d enil P = P := by rw [eadd_comm, eadd_nil]
theorem eadd_neg {d : Fin p} {P : Fin p × Fin p} (hd : EdOk d) (hP : OnE d P) : eadd d P (eneg P) = enil := by
  obtain ⟨h1, h2⟩ := whole hd hP (on_neg hP)
  obtain ⟨a, b⟩ := eadd_eq hd hP (on_neg hP)
  unfold enil
  unfold OnE at hP
  apply Prod.ext
  · dsimp only
    refine fp_cancel hd.prime h1 ?_
    generalize (eadd d P (eneg P)).1 = x at *
    unfold eneg at *
    dsimp only at *
    clear b h1 h2
    grind
  · dsimp only
    refine fp_cancel hd.prime h2 ?_
    generalize (eadd d P (eneg P)).2 = x at *
    unfold eneg at *
    dsimp only at *
    clear a h1 h2
    grind
def emul (d : Fin p) (P : Fin p × Fin p) : Nat → Fin p × Fin p
  | 0 => enil
  | n + 1 => eadd d (emul d P n) P
theorem on_mul {d : Fin p} {P : Fin p × Fin p} (hd : EdOk d) (hP : OnE d P) : ∀ n, OnE d (emul d P n)
  | 0 => on_nil d
  | n + 1 => on_add hd (on_mul hd hP n) hP
theorem emul_add {d : Fin p} {P : Fin p × Fin p} (hd : EdOk d) (hP : OnE d P) (m : Nat) : ∀ n, emul d P (m + n) = eadd d (emul d P m) (emul d P n)
  | 0 => by rw [Nat.add_zero]; exact (eadd_nil d _).symm
  | n + 1 => by
    show eadd d (emul d P (m + n)) P = eadd d (emul d P m) (eadd d (emul d P n) P)
    rw [emul_add hd hP m n, eadd_assoc hd (on_mul hd hP m) (on_mul hd hP n) hP]
theorem emul_mul {d : Fin p} {P : Fin p × Fin p} (hd : EdOk d) (hP : OnE d P) (m : Nat) : ∀ n, emul d (emul d P m) n = emul d P (m * n)
  | 0 => by rw [Nat.mul_zero]; rfl
  | n + 1 => by
    show eadd d (emul d (emul d P m) n) (emul d P m) = _
    rw [emul_mul hd hP m n, Nat.mul_succ, emul_add hd hP]
end
end Go.Proofs.YtcijaoihcckofaaDoor
namespace Go.Proofs.YtcijaoihcckofaaDoor
set_option linter.unusedVariables false
set_option linter.unusedSimpArgs false
/-- A ladder's state. -/
structure L4 (p : Nat) where
  a : Fin p
  b : Fin p
  c : Fin p
  d : Fin p
section
variable {p : Nat} [NeZero p]
def lsw (t : Bool) (s : L4 p) : L4 p := if t then ⟨s.c, s.d, s.a, s.b⟩ else s
def dblA (a b : Fin p) : Fin p := (a + b) * (a + b) * ((a - b) * (a - b))
def dblE (a b : Fin p) : Fin p := (a + b) * (a + b) - (a - b) * (a - b)
def dblB (q a b : Fin p) : Fin p := dblE a b * ((a + b) * (a + b) + dblE a b * q)
def addM (a b c d : Fin p) : Fin p := (c + d) * (a - b)
def addN (a b c d : Fin p) : Fin p := (c - d) * (a + b)
def addC (a b c d : Fin p) : Fin p := (addM a b c d + addN a b c d) * (addM a b c d + addN a b c d)
def addD (x a b c d : Fin p) : Fin p := x * ((addM a b c d - addN a b c d) * (addM a b c d - addN a b c d))
def lnx (q x : Fin p) (s : L4 p) : L4 p := ⟨dblA s.a s.b, dblB q s.a s.b, addC s.a s.b s.c s.d, addD x s.a s.b s.c s.d⟩
def lbit (k i : Nat) : Bool := decide (k / 2 ^ i % 2 = 1)
def lgo (q x : Fin p) (k : Nat) : Nat → L4 p
  | 0 => ⟨1, 0, x, 1⟩
  | n + 1 => lsw (lbit k (254 - n)) (lnx q x (lsw (lbit k (254 - n)) (lgo q x k n)))
/-- What the ladder comes to. -/
def lad (q : Fin p) (k : Nat) (x : Fin p) : Fin p := (lgo q x k 255).a * iv (lgo q x k 255).b
theorem lad_eq {q x : Fin p} {k : Nat} {s : L4 p} (h : s = lgo q x k 255) : lad q k x = s.a * s.b ^ (p - 2) := by
  rw [h]
  rfl
/-- The quotient a / b tells the point. -/
def XZ (g : Fin p) (P : Fin p × Fin p) (a b : Fin p) : Prop := ∃ l, l ≠ 0 ∧ a = l * (1 + P.2) ∧ b = l * (g * (1 - P.2))
structure LdOk (d g q k : Fin p) : Prop where
  ed : EdOk d
  sig : (g = 1 ∧ k = q + 1 ∧ k * d = q) ∨ (g = -1 ∧ k = -q ∧ k * d = -(q + 1))
theorem LdOk.gg {d g q k : Fin p} (h : LdOk d g q k) : g * g = 1 := by rcases h.sig with h | h <;> rw [h.1] <;> grind
theorem LdOk.kd {d g q k : Fin p} (h : LdOk d g q k) : k * (1 - d) = 1 := by rcases h.sig with h | h <;> grind
theorem ld_two {d : Fin p} (hd : EdOk d) : (2 : Fin p) ≠ 0 := by
  intro h
  exact fp_one_ne hd.prime (hd.two 1 (by grind))
theorem one_sub_ne {d y : Fin p} (hd : EdOk d) : 1 - d * (y * y) ≠ 0 := by
  intro h
  by_cases hy : y = 0
  · subst hy
    exact fp_one_ne hd.prime (by grind)
  · exact no_sq hd (s := 1) hy (by grind)
theorem xz_dbl {d g q k a b : Fin p} {P : Fin p × Fin p} (h : LdOk d g q k) (hP : OnE d P) (hz : XZ g P a b) : XZ g (eadd d P P) (dblA a b) (dblB q a b) := by
  have hd := h.ed
  have hp := hd.prime
  obtain ⟨l, hl, rfl, rfl⟩ := hz
  obtain ⟨w1, w2⟩ := whole hd hP hP
  have e2 := (eadd_eq hd hP hP).2
  have hy := one_sub_ne (y := P.2) hd
  have hk : k ≠ 0 := by
    intro e
    have := h.kd
    subst e
    exact fp_one_ne hp (by grind)
  unfold OnE at hP
  unfold XZ
  generalize (eadd d P P).2 = z at *
  generalize P.1 = x at *
  generalize P.2 = y at *
  have h2 := ld_two hd
  refine ⟨2 * 2 * 2 * (l * l * (l * l)) * (1 - d * x * x * y * y) * (1 - d * (y * y)) * k, ?_, ?_, ?_⟩
  · exact mul_ne hp (mul_ne hp (mul_ne hp (mul_ne hp (mul_ne hp (mul_ne hp h2 h2) h2) (mul_ne hp (mul_ne hp hl hl) (mul_ne hp hl hl))) w2) hy) hk
  · clear w1 w2 hy hk h2 hl
    have kd := h.kd
    have hsum : (1 - d * x * x * y * y) + (y * y - x * x) = 2 * (1 - x * x) := by grind
    have hprod : (1 - d * (y * y)) * (1 - x * x) = y * y * (1 - d) := by grind
    have r1 : 2 * 2 * 2 * (l * l * (l * l)) * (1 - d * x * x * y * y) * (1 - d * (y * y)) * k * (1 + z) = 2 * 2 * 2 * (l * l * (l * l)) * k * (2 * ((1 - d * (y * y)) * (1 - x * x))) := by
      have : (1 - d * x * x * y * y) * (1 + z) = 2 * (1 - x * x) := by rw [← hsum, ← e2]; grind
      have := congrArg (2 * 2 * 2 * (l * l * (l * l)) * (1 - d * (y * y)) * k * ·) this
      grind
    rw [r1, hprod]
    have r2 : 2 * 2 * 2 * (l * l * (l * l)) * k * (2 * (y * y * (1 - d))) = 2 * 2 * 2 * 2 * (l * l * (l * l)) * (y * y) * (k * (1 - d)) := by grind
    rw [r2, kd]
    unfold dblA
    rcases h.sig with ⟨rfl, _⟩ | ⟨rfl, _⟩ <;> clear r1 r2 hsum hprod e2 hP kd h <;> grind
  · clear w1 w2 hy hk h2 hl
    have hsum : (1 - d * x * x * y * y) - (y * y - x * x) = 2 * (1 - y * y) := by grind
    have r1 : 2 * 2 * 2 * (l * l * (l * l)) * (1 - d * x * x * y * y) * (1 - d * (y * y)) * k * (g * (1 - z)) = 2 * 2 * 2 * (l * l * (l * l)) * g * (2 * (1 - y * y)) * (k - k * d * (y * y)) := by
      have : (1 - d * x * x * y * y) * (1 - z) = 2 * (1 - y * y) := by rw [← hsum, ← e2]; grind
      have := congrArg (2 * 2 * 2 * (l * l * (l * l)) * (1 - d * (y * y)) * k * g * ·) this
      grind
    rw [r1]
    unfold dblB dblE
    rcases h.sig with ⟨rfl, h1, h2⟩ | ⟨rfl, h1, h2⟩ <;> rw [h2, h1] <;> clear r1 hsum e2 hP h h1 h2 <;> grind
theorem add_sq (d x1 y1 x2 y2 : Fin p) (h1 : x1 * x1 + y1 * y1 = 1 + d * (x1 * x1) * (y1 * y1)) (h2 : x2 * x2 + y2 * y2 = 1 + d * (x2 * x2) * (y2 * y2)) :
    (1 - d * ((x1 * x2) * (x1 * x2))) * ((y1 + y2) * (y1 + y2)) = ((1 - d * x1 * x2 * y1 * y2) + (y1 * y2 - x1 * x2)) * ((1 + d * x1 * x2 * y1 * y2) + (y1 * y2 + x1 * x2)) ∧
    (1 - d * ((x1 * x2) * (x1 * x2))) * ((y1 - y2) * (y1 - y2)) = ((1 - d * x1 * x2 * y1 * y2) - (y1 * y2 - x1 * x2)) * ((1 + d * x1 * x2 * y1 * y2) - (y1 * y2 + x1 * x2)) := by
  constructor <;> grind
theorem xz_add {d g q k a b c e X y : Fin p} {P Q : Fin p × Fin p} (h : LdOk d g q k) (hP : OnE d P) (hQ : OnE d Q) (hz : XZ g P a b) (hw : XZ g Q c e)
    (hS : y * (1 + d * P.1 * Q.1 * P.2 * Q.2) = P.2 * Q.2 + P.1 * Q.1) (hX : X * (g * (1 - y)) = 1 + y) (hX0 : X ≠ 0) : XZ g (eadd d P Q) (addC a b c e) (addD X a b c e) := by
  have hd := h.ed
  have hp := hd.prime
  have gg := h.gg
  obtain ⟨l, hl, rfl, rfl⟩ := hz
  obtain ⟨m, hm, rfl, rfl⟩ := hw
  obtain ⟨w1, w2⟩ := whole hd hP hQ
  have e2 := (eadd_eq hd hP hQ).2
  have hk := one_sub_ne (y := P.1 * Q.1) hd
  obtain ⟨q1, q2⟩ := add_sq d P.1 P.2 Q.1 Q.2 hP hQ
  clear hP hQ
  unfold XZ
  generalize (eadd d P Q).2 = z at *
  generalize P.1 = x1 at *
  generalize P.2 = y1 at *
  generalize Q.1 = x2 at *
  generalize Q.2 = y2 at *
  have h2 := ld_two hd
  -- what is left of the difference
  have hG : X * (g * ((1 + d * x1 * x2 * y1 * y2) - (y1 * y2 + x1 * x2))) = (1 + d * x1 * x2 * y1 * y2) + (y1 * y2 + x1 * x2) := by
    rw [← hS]
    have := congrArg (· * (1 + d * x1 * x2 * y1 * y2)) hX
    clear hS q1 q2 e2 hk w1 w2 hm hl gg h
    generalize 1 + d * x1 * x2 * y1 * y2 = S at *
    grind
  have hgn : (1 + d * x1 * x2 * y1 * y2) - (y1 * y2 + x1 * x2) ≠ 0 := by
    intro e0
    have h0 : (1 + d * x1 * x2 * y1 * y2) + (y1 * y2 + x1 * x2) = 0 := by rw [← hG, e0]; grind
    have : 2 * (1 + d * x1 * x2 * y1 * y2) = 0 := by grind
    exact mul_ne hp h2 w1 this
  have hg0 : g ≠ 0 := by intro e; subst e; exact fp_one_ne hp (by grind)
  have hi := iv_mul hp hk
  have hin : iv (1 - d * (x1 * x2 * (x1 * x2))) ≠ 0 := by intro e; rw [e] at hi; exact fp_one_ne hp (by grind)
  generalize iv (1 - d * (x1 * x2 * (x1 * x2))) = i at *
  have cE : addC (l * (1 + y1)) (l * (g * (1 - y1))) (m * (1 + y2)) (m * (g * (1 - y2))) = 2 * 2 * 2 * 2 * (l * l) * (m * m) * ((y1 + y2) * (y1 + y2)) := by
    unfold addC addM addN
    clear hX hS hG hgn hg0 hi hin e2 q1 q2 hk w1 w2 hl hm
    have : (m * (1 + y2) + m * (g * (1 - y2))) * (l * (1 + y1) - l * (g * (1 - y1))) + (m * (1 + y2) - m * (g * (1 - y2))) * (l * (1 + y1) + l * (g * (1 - y1))) = 2 * 2 * (l * m) * (y1 + y2) := by grind
    rw [this]
    grind
  have dE : addD X (l * (1 + y1)) (l * (g * (1 - y1))) (m * (1 + y2)) (m * (g * (1 - y2))) = 2 * 2 * 2 * 2 * (l * l) * (m * m) * X * ((y1 - y2) * (y1 - y2)) := by
    unfold addD addM addN
    clear hX hS hG hgn hg0 hi hin e2 q1 q2 hk w1 w2 hl hm cE
    have : (m * (1 + y2) + m * (g * (1 - y2))) * (l * (1 + y1) - l * (g * (1 - y1))) - (m * (1 + y2) - m * (g * (1 - y2))) * (l * (1 + y1) + l * (g * (1 - y1))) = 2 * 2 * (l * m) * (g * (y1 - y2)) := by grind
    rw [this]
    grind
  rw [cE, dE]
  clear cE dE hX hS
  have f1 : (1 - d * x1 * x2 * y1 * y2) * (1 + z) = (1 - d * x1 * x2 * y1 * y2) + (y1 * y2 - x1 * x2) := by rw [← e2]; grind
  have f2 : (1 - d * x1 * x2 * y1 * y2) * (1 - z) = (1 - d * x1 * x2 * y1 * y2) - (y1 * y2 - x1 * x2) := by rw [← e2]; grind
  rw [← f1] at q1
  rw [← f2] at q2
  rw [← hG] at q1
  clear e2 f1 f2 hG
  generalize (1 + d * x1 * x2 * y1 * y2) - (y1 * y2 + x1 * x2) = G at *
  generalize 1 - d * x1 * x2 * y1 * y2 = F at *
  generalize 1 - d * (x1 * x2 * (x1 * x2)) = K at *
  have s1 : (y1 + y2) * (y1 + y2) = i * (F * (1 + z) * (X * (g * G))) := by rw [← q1]; grind
  have s2 : (y1 - y2) * (y1 - y2) = i * (F * (1 - z) * G) := by rw [← q2]; grind
  rw [s1, s2]
  refine ⟨2 * 2 * 2 * 2 * (l * l) * (m * m) * i * F * X * (g * G), ?_, ?_, ?_⟩
  · exact mul_ne hp (mul_ne hp (mul_ne hp (mul_ne hp (mul_ne hp (mul_ne hp (mul_ne hp (mul_ne hp (mul_ne hp h2 h2) h2) h2) (mul_ne hp hl hl)) (mul_ne hp hm hm)) hin) w2) hX0) (mul_ne hp hg0 hgn)
  · clear q1 q2 s1 s2 hi; grind
  · clear q1 q2 s1 s2 hi; grind
/-- The quotient of a point (0 where there is none). -/
def uof (g : Fin p) (P : Fin p × Fin p) : Fin p := (1 + P.2) * iv (g * (1 - P.2))
theorem xz_uof {g a b : Fin p} {P : Fin p × Fin p} (hp : IsPrime p) (h : XZ g P a b) : a * iv b = uof g P := by
  obtain ⟨l, hl, rfl, rfl⟩ := h
  unfold uof
  rw [iv_prod]
  have := iv_mul hp hl
  generalize iv l = i at *
  generalize iv (g * (1 - P.2)) = j at *
  grind
theorem half_nat (k n : Nat) (hn : n < 255) : k / 2 ^ (255 - (n + 1)) = 2 * (k / 2 ^ (255 - n)) + k / 2 ^ (254 - n) % 2 := by
  have h1 : 255 - (n + 1) = 254 - n := by omega
  have h2 : 255 - n = (254 - n) + 1 := by omega
  rw [h1, h2, Nat.pow_succ, ← Nat.div_div_eq_div_mul]
  omega
/-- The difference of two that lie beside one another. -/
theorem beside {d : Fin p} {P : Fin p × Fin p} (hd : EdOk d) (hP : OnE d P) (m : Nat) :
    P.2 * (1 + d * (emul d P m).1 * (emul d P (m + 1)).1 * (emul d P m).2 * (emul d P (m + 1)).2) = (emul d P m).2 * (emul d P (m + 1)).2 + (emul d P m).1 * (emul d P (m + 1)).1 := by
  have hm := on_mul hd hP m
  have hm1 := on_mul hd hP (m + 1)
  have e : eadd d (eneg (emul d P m)) (emul d P (m + 1)) = P := by
    show eadd d (eneg (emul d P m)) (eadd d (emul d P m) P) = P
    rw [← eadd_assoc hd (on_neg hm) hm hP, eadd_comm d (eneg _), eadd_neg hd hm, nil_eadd]
  have h := (eadd_eq hd (on_neg hm) hm1).2
  rw [e] at h
  unfold eneg at h
  dsimp only at h
  clear e
  generalize (emul d P m).1 = x at *
  generalize (emul d P m).2 = y at *
  generalize (emul d P (m + 1)).1 = x' at *
  generalize (emul d P (m + 1)).2 = y' at *
  clear hm hm1 hP
  grind
theorem lgo_inv {d g q k' : Fin p} {P : Fin p × Fin p} {x : Fin p} {k : Nat} (h : LdOk d g q k') (hP : OnE d P) (hx : x * (g * (1 - P.2)) = 1 + P.2) (hx0 : x ≠ 0) (hk : k < 2 ^ 255) :
    ∀ n, n ≤ 255 → XZ g (emul d P (k / 2 ^ (255 - n))) (lgo q x k n).a (lgo q x k n).b ∧ XZ g (emul d P (k / 2 ^ (255 - n) + 1)) (lgo q x k n).c (lgo q x k n).d := by
  have hd := h.ed
  have hp := hd.prime
  intro n
  induction n with
  | zero =>
    intro _
    have h0 : k / 2 ^ (255 - 0) = 0 := Nat.div_eq_of_lt hk
    rw [h0]
    constructor
    · show XZ g enil 1 0
      have h2 := ld_two hd
      have hi := iv_mul hp h2
      refine ⟨iv 2, ?_, ?_, ?_⟩
      · intro e; rw [e] at hi; exact fp_one_ne hp (by grind)
      · unfold enil; dsimp only; generalize iv (2 : Fin p) = i at *; grind
      · unfold enil; dsimp only; generalize iv (2 : Fin p) = i at *; grind
    · show XZ g (eadd d enil P) x 1
      rw [nil_eadd]
      have hn : g * (1 - P.2) ≠ 0 := by
        intro e
        have e1 : 1 + P.2 = 0 := by rw [← hx, e]; grind
        have gg := h.gg
        have e2 : 1 - P.2 = 0 := by
          have := congrArg (g * ·) e
          grind
        exact ld_two hd (by grind)
      have hi := iv_mul hp hn
      refine ⟨iv (g * (1 - P.2)), ?_, ?_, ?_⟩
      · intro e; rw [e] at hi; exact fp_one_ne hp (by grind)
      · generalize iv (g * (1 - P.2)) = i at *; rw [← hx]; grind
      · generalize iv (g * (1 - P.2)) = i at *; grind
  | succ n ih =>
    intro hn
    obtain ⟨i1, i2⟩ := ih (by omega)
    have hh := half_nat k n (by omega)
    generalize k / 2 ^ (255 - n) = m at *
    generalize hs : lgo q x k n = s at *
    have o1 := on_mul hd hP m
    have o2 := on_mul hd hP (m + 1)
    have hb := beside hd hP m
    have hgo : lgo q x k (n + 1) = lsw (lbit k (254 - n)) (lnx q x (lsw (lbit k (254 - n)) s)) := by rw [← hs]; rfl
    rw [hgo, hh]
    by_cases hbit : k / 2 ^ (254 - n) % 2 = 1
    · have e : lbit k (254 - n) = true := decide_eq_true hbit
      rw [e, hbit]
      have e1 : emul d P (2 * m + 1) = eadd d (emul d P (m + 1)) (emul d P m) := by
        rw [← emul_add hd hP]; congr 1; omega
      have e2 : emul d P (2 * m + 1 + 1) = eadd d (emul d P (m + 1)) (emul d P (m + 1)) := by
        rw [← emul_add hd hP]; congr 1; omega
      rw [e1, e2]
      refine ⟨xz_add h o2 o1 i2 i1 (y := P.2) ?_ hx hx0, xz_dbl h o2 i2⟩
      generalize emul d P m = A at *
      generalize emul d P (m + 1) = B at *
      have c1 : d * B.1 * A.1 * B.2 * A.2 = d * A.1 * B.1 * A.2 * B.2 := by grind
      rw [c1, hb]
      grind
    · have hz : k / 2 ^ (254 - n) % 2 = 0 := by omega
      have e : lbit k (254 - n) = false := decide_eq_false hbit
      rw [e, hz, Nat.add_zero]
      have e1 : emul d P (2 * m) = eadd d (emul d P m) (emul d P m) := by
        rw [← emul_add hd hP]; congr 1; omega
      have e2 : emul d P (2 * m + 1) = eadd d (emul d P m) (emul d P (m + 1)) := by
        rw [← emul_add hd hP]; congr 1; omega
      rw [e1, e2]
      exact ⟨xz_dbl h o1 i1, xz_add h o1 o2 i1 i2 (y := P.2) hb hx hx0⟩
/-- The ladder is so many times the point. -/
theorem lad_mul {d g q k' : Fin p} {P : Fin p × Fin p} {x : Fin p} {k : Nat} (h : LdOk d g q k') (hP : OnE d P) (hx : x * (g * (1 - P.2)) = 1 + P.2) (hx0 : x ≠ 0) (hk : k < 2 ^ 255) : lad q k x = uof g (emul d P k) := by
  have := (lgo_inv h hP hx hx0 hk 255 (Nat.le_refl _)).1
  rw [Nat.sub_self, Nat.pow_zero, Nat.div_one] at this
  exact xz_uof h.ed.prime this
end
end Go.Proofs.YtcijaoihcckofaaDoor
namespace Go.Proofs.YtcijaoihcckofaaDoor
set_option linter.unusedVariables false
set_option linter.unusedSimpArgs false
section
variable {p : Nat} [NeZero p]
theorem fq_one_mul (a : Fin p) : 1 * a = a := by grind
theorem two_cancel {i z : Fin p} (h : (1 + 1) * i = 1) (hz : z + z = 0) : z = 0 := by
  have : i * (z + z) = 0 := by rw [hz]; grind
  grind
theorem neg_neg_one : (-1 : Fin p) * -1 = 1 := by grind
/-- Who has no root has it with another one that has none. -/
theorem root_or {e : Nat} {i d : Fin p} (hp : IsPrime p) (he : p = 8 * e + 5) (hi : i * i = -1) (hd : d ^ (4 * e + 2) = -1) (w : Fin p) : (∃ r : Fin p, r * r = w) ∨ ∃ r : Fin p, r * r = d * w := by
  have key : ∀ x : Fin p, (x = 0 ∨ x ^ (4 * e + 2) = 1) → ∃ r : Fin p, r * r = x := by
    intro x h
    have h1 := (rootC_one (x := x) hp he hi).2 h
    exact ⟨(rootC e i x 1).1, (fq_one_mul _).symm.trans (rootC_spec h1).1⟩
  by_cases h0 : w = 0
  · exact .inl (key w (.inl h0))
  · rcases half_sq hp he h0 with h | h
    · exact .inl (key w (.inr h))
    · right
      apply key
      right
      rw [fq_mul_pow, hd, h, neg_neg_one]
theorem no_root {e : Nat} {d : Fin p} (hp : IsPrime p) (he : p = 8 * e + 5) (hd : d ^ (4 * e + 2) = -1) (z : Fin p) : z * z ≠ d := by
  intro h
  have hne := two_ne hp he
  by_cases hz : z = 0
  · subst hz
    have h1 : d = 0 := by rw [← h]; grind
    rw [h1, fp_zero_pow _ (by omega)] at hd
    exact fp_one_ne hp (by grind)
  · have h2 : (z * z) ^ (4 * e + 2) = 1 := by
      rw [fq_mul_pow]
      rcases half_sq hp he hz with h | h <;> rw [h] <;> grind
    rw [h, hd] at h2
    exact hne h2.symm
theorem no_root' {d d' : Fin p} (hd : ∀ z : Fin p, z * z ≠ d) (h : d * d' = 1) (z : Fin p) : z * z ≠ d' := by
  intro hz
  apply hd (z * d)
  rw [← hz] at h
  grind
/-- The curve and its twist. -/
structure LdAll (d d' q : Fin p) : Prop where
  l1 : LdOk d 1 q (q + 1)
  l2 : LdOk d' (-1) q (-q)
  inv : d * d' = 1
  root : ∀ w : Fin p, (∃ r : Fin p, r * r = w) ∨ ∃ r : Fin p, r * r = d * w
end
/-- The curve's number, and its twist's. -/
def D1 : Fin PP := Fin.ofNat PP 20800338683988658368647408995589388737092878452977063003340006470870624536394
def D2 : Fin PP := Fin.ofNat PP 28692721048178265397853269683490922171210976843790175684556505508326675974058
def Q0 : Fin PP := Fin.ofNat PP 121665
theorem D1_D2 : D1 * D2 = 1 := by decide +kernel
theorem D1_Q : (Q0 + 1) * D1 = Q0 := by decide +kernel
theorem D2_Q : -Q0 * D2 = -(Q0 + 1) := by decide +kernel
theorem D1_half : D1 ^ (4 * EE + 2) = -1 := by
  apply Fin.ext
  rw [fp_pow_val, ← powm_eq PP 300 _ _ (by decide +kernel)]
  decide +kernel
theorem two_PP : ∀ z : Fin PP, z + z = 0 → z = 0 := fun z h => two_cancel (i := Fin.ofNat PP 28948022309329048855892746252171976963317496166410141009864396001978282409975) (by decide +kernel) h
theorem D1_nosq : ∀ z : Fin PP, z * z ≠ D1 := no_root PP_prime PP_EE D1_half
theorem ed1 : EdOk D1 := ⟨PP_prime, D1_nosq, two_PP⟩
theorem ed2 : EdOk D2 := ⟨PP_prime, no_root' D1_nosq D1_D2, two_PP⟩
theorem LD : LdAll D1 D2 Q0 := ⟨⟨ed1, .inl ⟨rfl, rfl, D1_Q⟩⟩, ⟨ed2, .inr ⟨rfl, rfl, D2_Q⟩⟩, D1_D2, root_or PP_prime PP_EE II_sq D1_half⟩
end Go.Proofs.YtcijaoihcckofaaDoor
namespace Go.Proofs.YtcijaoihcckofaaDoor
set_option linter.unusedVariables false
set_option linter.unusedSimpArgs false
section
variable {p : Nat} [NeZero p]
theorem tw_on {i d x y : Fin p} (hi : i * i = -1) (h : y * y - x * x = 1 + -d * (x * x) * (y * y)) : OnE d (i * x, y) := by
  unfold OnE
  dsimp only
  grind
theorem tw_off {i d X Y : Fin p} (hi : i * i = -1) (h : OnE d (X, Y)) : Y * Y - (-i * X) * (-i * X) = 1 + -d * ((-i * X) * (-i * X)) * (Y * Y) := by
  unfold OnE at h
  dsimp only at h
  grind
theorem tw_up {i X : Fin p} (hi : i * i = -1) : i * (-i * X) = X := by grind
theorem tw_inj {i x y : Fin p} (hi : i * i = -1) (h : i * x = i * y) : x = y := by
  have : -i * (i * x) = -i * (i * y) := by rw [h]
  grind
theorem tw_den {i d x z y w : Fin p} (hi : i * i = -1) : 1 + d * (i * x) * (i * z) * y * w = 1 + -d * x * z * y * w ∧ 1 - d * (i * x) * (i * z) * y * w = 1 - -d * x * z * y * w := by
  constructor <;> grind
theorem tw_addx {i X s x y z w : Fin p} (hi : i * i = -1) (h : X * s = i * x * w + y * (i * z)) : -i * X * s = x * w + y * z := by grind
theorem tw_addy {i Y s x y z w : Fin p} (hi : i * i = -1) (h : Y * s = y * w - i * x * (i * z)) : Y * s = y * w + x * z := by grind
theorem tw_nil {d : Fin p} : (1 : Fin p) * 1 - 0 * 0 = 1 + d * (0 * 0) * (1 * 1) := by grind
theorem mul_nil (i : Fin p) : i * 0 = 0 := by grind
end
/-- The curve's d. -/
def TD : Fin PP := -D1
/-- A point. -/
structure Pt where
  x : Fin PP
  y : Fin PP
  on : y * y - x * x = 1 + TD * (x * x) * (y * y)
deriving DecidableEq
namespace Pt
theorem ext' {P Q : Pt} (hx : P.x = Q.x) (hy : P.y = Q.y) : P = Q := by
  cases P
  cases Q
  dsimp only at hx hy
  subst hx hy
  rfl
/-- The point of the other curve. -/
def up (P : Pt) : Fin PP × Fin PP := (II * P.x, P.y)
theorem up_on (P : Pt) : OnE D1 P.up := tw_on II_sq P.on
def of (R : Fin PP × Fin PP) (h : OnE D1 R) : Pt := ⟨-II * R.1, R.2, tw_off II_sq h⟩
theorem up_of (R : Fin PP × Fin PP) (h : OnE D1 R) : (of R h).up = R := by
  unfold up of
  dsimp only
  rw [tw_up II_sq]
theorem up_inj {P Q : Pt} (h : P.up = Q.up) : P = Q := by
  unfold up at h
  injection h with h1 h2
  exact ext' (tw_inj II_sq h1) h2
def add (P Q : Pt) : Pt := of (eadd D1 P.up Q.up) (on_add ed1 P.up_on Q.up_on)
theorem up_add (P Q : Pt) : (P.add Q).up = eadd D1 P.up Q.up := up_of _ _
def nil : Pt := ⟨0, 1, tw_nil⟩
theorem up_nil : nil.up = enil := by
  unfold up nil enil
  dsimp only
  rw [mul_nil]
def mul (P : Pt) : Nat → Pt
  | 0 => nil
  | n + 1 => (mul P n).add P
theorem up_mul (P : Pt) : ∀ n, (P.mul n).up = emul D1 P.up n
  | 0 => up_nil
  | n + 1 => by
    show ((P.mul n).add P).up = eadd D1 (emul D1 P.up n) P.up
    rw [up_add, up_mul P n]
theorem add_comm (P Q : Pt) : P.add Q = Q.add P := up_inj (by rw [up_add, up_add, eadd_comm])
theorem add_assoc (P Q R : Pt) : (P.add Q).add R = P.add (Q.add R) := up_inj (by rw [up_add, up_add, up_add, up_add, eadd_assoc ed1 P.up_on Q.up_on R.up_on])
theorem nil_add (P : Pt) : nil.add P = P := up_inj (by rw [up_add, up_nil, nil_eadd])
theorem mul_zero (P : Pt) : P.mul 0 = nil := rfl
theorem mul_succ (P : Pt) (n : Nat) : P.mul (n + 1) = (P.mul n).add P := rfl
theorem mul_one (P : Pt) : P.mul 1 = P := nil_add P
theorem mul_add (P : Pt) (m n : Nat) : P.mul (m + n) = (P.mul m).add (P.mul n) := up_inj (by rw [up_add, up_mul, up_mul, up_mul, emul_add ed1 P.up_on])
theorem mul_mul (P : Pt) (m n : Nat) : (P.mul m).mul n = P.mul (m * n) := up_inj (by rw [up_mul, up_mul, up_mul, emul_mul ed1 P.up_on])
theorem mul_two (P : Pt) (n : Nat) : P.mul (2 * n) = (P.mul n).add (P.mul n) := by rw [Nat.two_mul, mul_add]
theorem nil_mul : ∀ n, nil.mul n = nil
  | 0 => rfl
  | n + 1 => by rw [mul_succ, nil_mul n, nil_add]
theorem add_mul (P Q : Pt) : ∀ n, (P.add Q).mul n = (P.mul n).add (Q.mul n)
  | 0 => (nil_add nil).symm
  | n + 1 => by
    rw [mul_succ, mul_succ, mul_succ, add_mul P Q n, add_assoc, add_assoc, ← add_assoc (Q.mul n), add_comm (Q.mul n), add_assoc P]
/-- What comes to nought so often: multiples of it don't count. -/
theorem mul_mod {P : Pt} {l : Nat} (h : P.mul l = nil) (n : Nat) : P.mul (n % l) = P.mul n := by
  have e : P.mul n = P.mul (l * (n / l) + n % l) := by rw [Nat.div_add_mod]
  rw [e, mul_add, ← mul_mul, h, nil_mul, nil_add]
/-- Nothing is divided by nought. -/
theorem den (P Q : Pt) : 1 + TD * P.x * Q.x * P.y * Q.y ≠ 0 ∧ 1 - TD * P.x * Q.x * P.y * Q.y ≠ 0 := by
  have h := whole ed1 P.up_on Q.up_on
  unfold up at h
  dsimp only at h
  rw [(tw_den II_sq).1, (tw_den II_sq).2] at h
  exact h
theorem add_x (P Q : Pt) : (P.add Q).x * (1 + TD * P.x * Q.x * P.y * Q.y) = P.x * Q.y + P.y * Q.x := by
  have h := (eadd_eq ed1 P.up_on Q.up_on).1
  have e : (P.add Q).x = -II * (eadd D1 P.up Q.up).1 := rfl
  rw [e]
  generalize (eadd D1 P.up Q.up).1 = X at *
  unfold up at h
  dsimp only at h
  rw [(tw_den II_sq).1] at h
  exact tw_addx II_sq h
theorem add_y (P Q : Pt) : (P.add Q).y * (1 - TD * P.x * Q.x * P.y * Q.y) = P.y * Q.y + P.x * Q.x := by
  have h := (eadd_eq ed1 P.up_on Q.up_on).2
  have e : (P.add Q).y = (eadd D1 P.up Q.up).2 := rfl
  rw [e]
  generalize (eadd D1 P.up Q.up).2 = Y at *
  unfold up at h
  dsimp only at h
  rw [(tw_den II_sq).2] at h
  exact tw_addy II_sq h
end Pt
end Go.Proofs.YtcijaoihcckofaaDoor
namespace Go.Proofs.YtcijaoihcckofaaDoor
set_option linter.unusedVariables false
set_option linter.unusedSimpArgs false
section
variable {p : Nat} [NeZero p]
theorem eq_of_mul {a b c : Fin p} (hp : IsPrime p) (h : c ≠ 0) (e : a * c = b * c) : a = b := fp_cancel hp h (by rw [fq_mul_comm c a, fq_mul_comm c b, e])
/-- The sum of two that are kept as three numbers. -/
theorem rep3_add {d x y z w a b X Y : Fin p} (h1 : X * (1 + d * x * z * y * w) = x * w + y * z) (h2 : Y * (1 - d * x * z * y * w) = y * w + x * z) :
    ((x * a) * (w * b) + (z * b) * (y * a)) * (a * b) * ((a * b) * (a * b) - d * ((x * a) * (w * b) * ((z * b) * (y * a)))) = X * (((a * b) * (a * b) + d * ((x * a) * (w * b) * ((z * b) * (y * a)))) * ((a * b) * (a * b) - d * ((x * a) * (w * b) * ((z * b) * (y * a))))) ∧
    ((y * a) * (w * b) + (x * a) * (z * b)) * (a * b) * ((a * b) * (a * b) + d * ((x * a) * (w * b) * ((z * b) * (y * a)))) = Y * (((a * b) * (a * b) + d * ((x * a) * (w * b) * ((z * b) * (y * a)))) * ((a * b) * (a * b) - d * ((x * a) * (w * b) * ((z * b) * (y * a))))) ∧
    (a * b) * (a * b) + d * ((x * a) * (w * b) * ((z * b) * (y * a))) = (a * b) * (a * b) * (1 + d * x * z * y * w) ∧
    (a * b) * (a * b) - d * ((x * a) * (w * b) * ((z * b) * (y * a))) = (a * b) * (a * b) * (1 - d * x * z * y * w) := by
  have e1 : (a * b) * (a * b) + d * ((x * a) * (w * b) * ((z * b) * (y * a))) = (a * b) * (a * b) * (1 + d * x * z * y * w) := by clear h1 h2; grind
  have e2 : (a * b) * (a * b) - d * ((x * a) * (w * b) * ((z * b) * (y * a))) = (a * b) * (a * b) * (1 - d * x * z * y * w) := by clear h1 h2 e1; grind
  refine ⟨?_, ?_, e1, e2⟩
  · rw [e1, e2]
    clear e1 e2 h2
    generalize 1 + d * x * z * y * w = S at *
    generalize 1 - d * x * z * y * w = T at *
    have : (x * a) * (w * b) + (z * b) * (y * a) = (x * w + y * z) * (a * b) := by clear h1; grind
    rw [this, ← h1]
    clear this h1
    grind
  · rw [e1, e2]
    clear e1 e2 h1
    generalize 1 + d * x * z * y * w = S at *
    generalize 1 - d * x * z * y * w = T at *
    have : (y * a) * (w * b) + (x * a) * (z * b) = (y * w + x * z) * (a * b) := by clear h2; grind
    rw [this, ← h2]
    clear this h2
    grind
/-- The sum of two that are kept as four numbers. -/
theorem rep4_add {d x y z w a b X Y l m : Fin p} (h1 : X * (1 + d * x * z * y * w) = x * w + y * z) (h2 : Y * (1 - d * x * z * y * w) = y * w + x * z)
    (hl : l = (y * a - x * a) * (w * b - z * b)) (hm : m = (y * a + x * a) * (w * b + z * b)) :
    m - l = 2 * (a * b) * (X * (1 + d * x * z * y * w)) ∧ m + l = 2 * (a * b) * (Y * (1 - d * x * z * y * w)) ∧
    a * b + x * y * a * (z * w * b) * d + (a * b + x * y * a * (z * w * b) * d) = 2 * (a * b) * (1 + d * x * z * y * w) ∧
    a * b - x * y * a * (z * w * b) * d + (a * b - x * y * a * (z * w * b) * d) = 2 * (a * b) * (1 - d * x * z * y * w) := by
  rw [h1, h2]
  clear h1 h2
  subst hl hm
  refine ⟨?_, ?_, ?_, ?_⟩ <;> grind
theorem rep4_out {X Y S T k : Fin p} : k * (X * S) * (k * T) = X * (k * S * (k * T)) ∧ k * (Y * T) * (k * S) = Y * (k * S * (k * T)) ∧ k * (X * S) * (k * (Y * T)) = X * Y * (k * S * (k * T)) := by
  refine ⟨?_, ?_, ?_⟩ <;> grind
theorem scale_inv {x a i : Fin p} (h : a * i = 1) : x * a * i = x := by grind
theorem cross {x a z b : Fin p} (hp : IsPrime p) (ha : a ≠ 0) (hb : b ≠ 0) : x * a * b = z * b * a ↔ x = z := by
  constructor
  · intro h
    refine eq_of_mul hp (mul_ne hp ha hb) ?_
    grind
  · intro h
    subst h
    grind
theorem one_scale (x y : Fin p) : x = x * 1 ∧ y = y * 1 ∧ x * y = x * y * 1 := by refine ⟨?_, ?_, ?_⟩ <;> grind
theorem nil_scale : (0 : Fin p) = 0 * 1 ∧ (1 : Fin p) = 1 * 1 ∧ (0 : Fin p) * 1 = 0 * 1 * 1 := by refine ⟨?_, ?_, ?_⟩ <;> grind
end
/-- The document's. -/
structure Pj3 where
  X : Fin PP
  Y : Fin PP
  Z : Fin PP
def RepR (P : Pt) (r : Pj3) : Prop := r.Z ≠ 0 ∧ r.X = P.x * r.Z ∧ r.Y = P.y * r.Z
def rpAdd (p q : Pj3) : Pj3 :=
  ⟨(p.X * q.Y + q.X * p.Y) * (p.Z * q.Z) * (p.Z * q.Z * (p.Z * q.Z) - TD * (p.X * q.Y * (q.X * p.Y))), (p.Y * q.Y + p.X * q.X) * (p.Z * q.Z) * (p.Z * q.Z * (p.Z * q.Z) + TD * (p.X * q.Y * (q.X * p.Y))),
    (p.Z * q.Z * (p.Z * q.Z) + TD * (p.X * q.Y * (q.X * p.Y))) * (p.Z * q.Z * (p.Z * q.Z) - TD * (p.X * q.Y * (q.X * p.Y)))⟩
def rpNil : Pj3 := ⟨0, 1, 1⟩
theorem RepR.add {P Q : Pt} {p q : Pj3} (hP : RepR P p) (hQ : RepR Q q) : RepR (P.add Q) (rpAdd p q) := by
  obtain ⟨a0, hx, hy⟩ := hP
  obtain ⟨b0, hz, hw⟩ := hQ
  obtain ⟨d1, d2⟩ := P.den Q
  have h1 := P.add_x Q
  have h2 := P.add_y Q
  unfold RepR rpAdd
  dsimp only
  rw [hx, hy, hz, hw]
  obtain ⟨e1, e2, e3, e4⟩ := rep3_add (a := p.Z) (b := q.Z) h1 h2
  refine ⟨?_, e1, e2⟩
  rw [e3, e4]
  have ab := mul_ne PP_prime a0 b0
  exact mul_ne PP_prime (mul_ne PP_prime (mul_ne PP_prime ab ab) d1) (mul_ne PP_prime (mul_ne PP_prime ab ab) d2)
theorem RepR.nil : RepR Pt.nil rpNil := ⟨fp_one_ne PP_prime, nil_scale.1, nil_scale.2.1⟩
theorem RepR.flat {P : Pt} {p : Pj3} (h : RepR P p) : p.X * p.Z ^ (PP - 2) = P.x ∧ p.Y * p.Z ^ (PP - 2) = P.y := by
  obtain ⟨a0, hx, hy⟩ := h
  have hi : p.Z * p.Z ^ (PP - 2) = 1 := fp_inv PP_prime a0
  rw [hx, hy]
  exact ⟨scale_inv hi, scale_inv hi⟩
theorem RepR.same {P Q : Pt} {p q : Pj3} (hP : RepR P p) (hQ : RepR Q q) : (p.X * q.Z = q.X * p.Z ∧ p.Y * q.Z = q.Y * p.Z) ↔ P = Q := by
  obtain ⟨a0, hx, hy⟩ := hP
  obtain ⟨b0, hz, hw⟩ := hQ
  rw [hx, hy, hz, hw, cross PP_prime a0 b0, cross PP_prime a0 b0]
  constructor
  · rintro ⟨h1, h2⟩
    exact Pt.ext' h1 h2
  · rintro rfl
    exact ⟨rfl, rfl⟩
theorem RepR.of (P : Pt) : RepR P ⟨P.x, P.y, 1⟩ := ⟨fp_one_ne PP_prime, (one_scale _ 0).1, (one_scale _ 0).1⟩
/-- The program's: x, y, z and t stand as a, b, c and d. -/
def RepE (P : Pt) (s : L4 PP) : Prop := s.c ≠ 0 ∧ s.a = P.x * s.c ∧ s.b = P.y * s.c ∧ s.d = P.x * P.y * s.c
/-- A zero z stands for nought. -/
def ptSet (s : L4 PP) : L4 PP := if s.c = 0 then ⟨0, 1, 1, 0 * 1⟩ else s
def RepS (P : Pt) (s : L4 PP) : Prop := RepE P (ptSet s)
def paL (s t : L4 PP) : Fin PP := (s.b - s.a) * (t.b - t.a)
def paH (s t : L4 PP) : Fin PP := (s.b + s.a) * (t.b + t.a)
def paU (s t : L4 PP) : Fin PP := s.c * t.c + s.d * t.d * TD + (s.c * t.c + s.d * t.d * TD)
def paV (s t : L4 PP) : Fin PP := s.c * t.c - s.d * t.d * TD + (s.c * t.c - s.d * t.d * TD)
def ptAdd0 (s t : L4 PP) : L4 PP := ⟨(paH s t - paL s t) * paV s t, (paH s t + paL s t) * paU s t, paU s t * paV s t, (paH s t - paL s t) * (paH s t + paL s t)⟩
def ptAdd (s t : L4 PP) : L4 PP := ptAdd0 (ptSet s) (ptSet t)
theorem ptSet_id {s : L4 PP} (h : s.c ≠ 0) : ptSet s = s := by unfold ptSet; rw [if_neg h]
theorem ptSet_zero {s : L4 PP} (h : s.c = 0) : ptSet s = ⟨0, 1, 1, 0 * 1⟩ := by unfold ptSet; rw [if_pos h]
theorem RepE.set {P : Pt} {s : L4 PP} (h : RepE P s) : RepS P s := by
  unfold RepS
  rw [ptSet_id h.1]
  exact h
theorem two_ne0 : (2 : Fin PP) ≠ 0 := ld_two ed1
theorem RepE.padd0 {P Q : Pt} {s t : L4 PP} (hP : RepE P s) (hQ : RepE Q t) : RepE (P.add Q) (ptAdd0 s t) := by
  obtain ⟨a0, hx, hy, hxy⟩ := hP
  obtain ⟨b0, hz, hw, hzw⟩ := hQ
  obtain ⟨d1, d2⟩ := P.den Q
  have h1 := P.add_x Q
  have h2 := P.add_y Q
  obtain ⟨e1, e2, e3, e4⟩ := rep4_add (a := s.c) (b := t.c) (l := paL s t) (m := paH s t) h1 h2 (by unfold paL; rw [hx, hy, hz, hw]) (by unfold paH; rw [hx, hy, hz, hw])
  have e3' : paU s t = 2 * (s.c * t.c) * (1 + TD * P.x * Q.x * P.y * Q.y) := by unfold paU; rw [hxy, hzw]; exact e3
  have e4' : paV s t = 2 * (s.c * t.c) * (1 - TD * P.x * Q.x * P.y * Q.y) := by unfold paV; rw [hxy, hzw]; exact e4
  have k0 : (2 : Fin PP) * (s.c * t.c) ≠ 0 := mul_ne PP_prime two_ne0 (mul_ne PP_prime a0 b0)
  unfold RepE ptAdd0
  dsimp only
  rw [e1, e2, e3', e4']
  obtain ⟨f1, f2, f3⟩ := rep4_out (X := (P.add Q).x) (Y := (P.add Q).y) (S := 1 + TD * P.x * Q.x * P.y * Q.y) (T := 1 - TD * P.x * Q.x * P.y * Q.y) (k := 2 * (s.c * t.c))
  exact ⟨mul_ne PP_prime (mul_ne PP_prime k0 d1) (mul_ne PP_prime k0 d2), f1, f2, f3⟩
theorem RepS.add {P Q : Pt} {s t : L4 PP} (hP : RepS P s) (hQ : RepS Q t) : RepS (P.add Q) (ptAdd s t) := (RepE.padd0 hP hQ).set
theorem RepE.nil1 : RepE Pt.nil ⟨0, 1, 1, 0 * 1⟩ := ⟨fp_one_ne PP_prime, nil_scale.1, nil_scale.2.1, nil_scale.2.2⟩
theorem RepS.zero {s : L4 PP} (h : s.c = 0) : RepS Pt.nil s := by
  unfold RepS
  rw [ptSet_zero h]
  exact RepE.nil1
theorem RepE.inj {P Q : Pt} {s : L4 PP} (hP : RepE P s) (hQ : RepE Q s) : P = Q := by
  obtain ⟨a0, hx, hy, _⟩ := hP
  obtain ⟨_, hz, hw, _⟩ := hQ
  exact Pt.ext' (eq_of_mul PP_prime a0 (hx.symm.trans hz)) (eq_of_mul PP_prime a0 (hy.symm.trans hw))
theorem RepS.flat {P : Pt} {s : L4 PP} (h : RepS P s) : (ptSet s).a * (ptSet s).c ^ (PP - 2) = P.x ∧ (ptSet s).b * (ptSet s).c ^ (PP - 2) = P.y := by
  obtain ⟨a0, hx, hy, _⟩ := h
  have hi : (ptSet s).c * (ptSet s).c ^ (PP - 2) = 1 := fp_inv PP_prime a0
  rw [hx, hy]
  exact ⟨scale_inv hi, scale_inv hi⟩
theorem RepS.same {P Q : Pt} {s t : L4 PP} (hP : RepS P s) (hQ : RepS Q t) : ((ptSet s).a * (ptSet t).c = (ptSet t).a * (ptSet s).c ∧ (ptSet s).b * (ptSet t).c = (ptSet t).b * (ptSet s).c) ↔ P = Q := by
  obtain ⟨a0, hx, hy, _⟩ := hP
  obtain ⟨b0, hz, hw, _⟩ := hQ
  rw [hx, hy, hz, hw, cross PP_prime a0 b0, cross PP_prime a0 b0]
  constructor
  · rintro ⟨h1, h2⟩
    exact Pt.ext' h1 h2
  · rintro rfl
    exact ⟨rfl, rfl⟩
/-- The point of two numbers. -/
def ptE (x y : Fin PP) : L4 PP := ⟨x, y, 1, x * y⟩
theorem RepS.of (P : Pt) : RepS P (ptE P.x P.y) := RepE.set ⟨fp_one_ne PP_prime, (one_scale _ 0).1, (one_scale _ 0).1, (one_scale _ _).2.2⟩
/-- Of the first n bits. -/
def ptMul (s : L4 PP) (k : Nat) : Nat → L4 PP
  | 0 => ⟨0, 0, 0, 0⟩
  | n + 1 => if lbit k (255 - n) then ptAdd (ptAdd (ptMul s k n) (ptMul s k n)) s else ptAdd (ptMul s k n) (ptMul s k n)
def rpMul (r : Pj3) (k : Nat) : Nat → Pj3
  | 0 => rpNil
  | n + 1 => if lbit k (255 - n) then rpAdd (rpAdd (rpMul r k n) (rpMul r k n)) r else rpAdd (rpMul r k n) (rpMul r k n)
theorem half256 (k n : Nat) (hn : n < 256) : k / 2 ^ (256 - (n + 1)) = 2 * (k / 2 ^ (256 - n)) + k / 2 ^ (255 - n) % 2 := by
  have h1 : 256 - (n + 1) = 255 - n := by omega
  have h2 : 256 - n = (255 - n) + 1 := by omega
  rw [h1, h2, Nat.pow_succ, ← Nat.div_div_eq_div_mul]
  omega
theorem bit_yes {k i : Nat} (h : lbit k i = true) : k / 2 ^ i % 2 = 1 := of_decide_eq_true h
theorem bit_no {k i : Nat} (h : ¬ lbit k i = true) : k / 2 ^ i % 2 = 0 := by
  have : ¬ k / 2 ^ i % 2 = 1 := fun e => h (decide_eq_true e)
  omega
theorem ptMul_rep {P : Pt} {s : L4 PP} {k : Nat} (h : RepS P s) (hk : k < 2 ^ 256) : ∀ n, n ≤ 256 → RepS (P.mul (k / 2 ^ (256 - n))) (ptMul s k n) := by
  intro n
  induction n with
  | zero =>
    intro _
    rw [Nat.sub_zero, Nat.div_eq_of_lt hk]
    exact RepS.zero rfl
  | succ n ih =>
    intro hn
    have i1 := ih (by omega)
    rw [half256 k n (by omega)]
    unfold ptMul
    by_cases hb : lbit k (255 - n) = true
    · rw [if_pos hb, bit_yes hb, Pt.mul_add, Pt.mul_two, Pt.mul_one]
      exact (i1.add i1).add h
    · rw [if_neg hb, bit_no hb, Nat.add_zero, Pt.mul_two]
      exact i1.add i1
theorem rpMul_rep {P : Pt} {r : Pj3} {k : Nat} (h : RepR P r) (hk : k < 2 ^ 256) : ∀ n, n ≤ 256 → RepR (P.mul (k / 2 ^ (256 - n))) (rpMul r k n) := by
  intro n
  induction n with
  | zero =>
    intro _
    rw [Nat.sub_zero, Nat.div_eq_of_lt hk]
    exact RepR.nil
  | succ n ih =>
    intro hn
    have i1 := ih (by omega)
    rw [half256 k n (by omega)]
    unfold rpMul
    by_cases hb : lbit k (255 - n) = true
    · rw [if_pos hb, bit_yes hb, Pt.mul_add, Pt.mul_two, Pt.mul_one]
      exact (i1.add i1).add h
    · rw [if_neg hb, bit_no hb, Nat.add_zero, Pt.mul_two]
      exact i1.add i1
theorem RepS.mul {P : Pt} {s : L4 PP} {k : Nat} (h : RepS P s) (hk : k < 2 ^ 256) : RepS (P.mul k) (ptMul s k 256) := by
  have := ptMul_rep h hk 256 (Nat.le_refl _)
  rw [Nat.sub_self, Nat.pow_zero, Nat.div_one] at this
  exact this
theorem RepR.mul {P : Pt} {r : Pj3} {k : Nat} (h : RepR P r) (hk : k < 2 ^ 256) : RepR (P.mul k) (rpMul r k 256) := by
  have := rpMul_rep h hk 256 (Nat.le_refl _)
  rw [Nat.sub_self, Nat.pow_zero, Nat.div_one] at this
  exact this
end Go.Proofs.YtcijaoihcckofaaDoor
namespace Go.Proofs.YtcijaoihcckofaaDoor
set_option linter.unusedVariables false
set_option linter.unusedSimpArgs false
section
variable {p : Nat} [NeZero p]
end
section
attribute [local irreducible] rootC EE II TD ofK
end
/-- A point's bytes. -/
def pbn (P : Pt) : Nat := P.y.val + P.x.val % 2 * 57896044618658097711785492504343953926634992332820282019728792003956564819968
theorem PP_lt255 (x : Fin PP) : x.val < 57896044618658097711785492504343953926634992332820282019728792003956564819968 := by
  have := x.isLt
  have e : PP = 57896044618658097711785492504343953926634992332820282019728792003956564819949 := PP_eq
  omega
theorem pbn_lt (P : Pt) : pbn P < 115792089237316195423570985008687907853269984665640564039457584007913129639936 := by
  have := PP_lt255 P.y
  unfold pbn
  omega
theorem ofK_of {n : Nat} {y : Fin PP} (h : n % 57896044618658097711785492504343953926634992332820282019728792003956564819968 = y.val) : ofK n = y := by
  apply Fin.ext
  show n % 57896044618658097711785492504343953926634992332820282019728792003956564819968 % PP = y.val
  rw [h, Nat.mod_eq_of_lt y.isLt]
def BX : Fin PP := Fin.ofNat PP 15112221349535400772501151409588531511454012693041857206046113283949847762202
def BY : Fin PP := Fin.ofNat PP 46316835694926478169428394003475163141307993866256225615783033603165251855960
def BP : Pt := ⟨BX, BY, by decide +kernel⟩
def BE : L4 PP := ptE BX BY
theorem BE_rep : RepS BP BE := RepS.of BP
/-- The group's order. -/
def LL' : Nat := 7237005577332262213973186563042994240857116359379907606001950938285454250989
set_option maxRecDepth 100000 in
theorem BP_order : BP.mul LL' = Pt.nil := by
  have h := RepS.mul (k := LL') BE_rep (by decide +kernel)
  have hr : ∀ s : L4 PP, s = ptMul BE LL' 256 → s.c ≠ 0 → s.a = 0 → s.b = s.c → RepS (BP.mul LL') s → BP.mul LL' = Pt.nil := by
    intro s _ hc ha hb hs
    unfold RepS at hs
    rw [ptSet_id hc] at hs
    obtain ⟨_, hx, hy, _⟩ := hs
    refine Pt.ext' ?_ ?_
    · rw [ha] at hx
      rcases fp_nz PP_prime hx.symm with e | e
      · exact e
      · exact absurd e hc
    · refine eq_of_mul PP_prime hc ?_
      rw [← hy, hb]
      exact (one_scale _ 0).1.trans (fq_mul_comm _ _)
  exact hr _ rfl (by decide +kernel) (by decide +kernel) (by decide +kernel) h
theorem up_mul_y (k : Nat) : (emul D1 BP.up k).2 = (BP.mul k).y := by
  rw [← Pt.up_mul]
  rfl
theorem nine_hx : (Fin.ofNat PP 9) * (1 * (1 - BP.up.2)) = 1 + BP.up.2 := by decide +kernel
/-- The ladder of the base is (1 + y) / (1 - y) of so often the base. -/
theorem ladder_base {k : Nat} (hk : k < 2 ^ 255) : lad Q0 k (Fin.ofNat PP 9) = (1 + (BP.mul k).y) * (1 - (BP.mul k).y) ^ (PP - 2) := by
  have h := lad_mul (x := Fin.ofNat PP 9) LD.l1 BP.up_on nine_hx (by decide +kernel) hk
  rw [h]
  unfold uof
  rw [up_mul_y]
  have e : (1 : Fin PP) * (1 - (BP.mul k).y) = 1 - (BP.mul k).y := by
    have gen : ∀ {p : Nat} [NeZero p] (z : Fin p), 1 * z = z := by intro p _ z; grind
    exact gen _
  rw [e]
  rfl
end Go.Proofs.YtcijaoihcckofaaDoor
namespace Go.Proofs.YtcijaoihcckofaaDoor
set_option linter.unusedVariables false
set_option linter.unusedSimpArgs false
set_option maxRecDepth 100000
open Go Go.RowKit
/-- The cells of a state. -/
def sv (s : L4 PP) : Array Value := ev s.a ++ ev s.b ++ ev s.c ++ ev s.d
theorem sv_size (s : L4 PP) : (sv s).size = 16 := rfl
theorem sv_list (s : L4 PP) : (sv s).toList = (ev s.a).toList ++ (ev s.b).toList ++ (ev s.c).toList ++ (ev s.d).toList := by simp [sv]
theorem sv_one (s : L4 PP) : (sv s).all (·.oneCell') = true := by
  have h : ∀ x : Fin PP, ∀ v ∈ (ev x).toList, v.oneCell' = true := fun x v hv => (Array.all_eq_true_iff_forall_mem.1 (ev_one x)) v (by simpa using hv)
  refine Array.all_eq_true_iff_forall_mem.2 fun v hv => ?_
  have hm : v ∈ (sv s).toList := by simpa using hv
  rw [sv_list] at hm
  simp only [List.mem_append] at hm
  rcases hm with ((hm | hm) | hm) | hm
  · exact h _ v hm
  · exact h _ v hm
  · exact h _ v hm
  · exact h _ v hm
theorem info_sv (s : L4 PP) : (Tryd.prog.info? 109).map (·.size) = some (sv s).size := by rw [sv_size]; kernel_rfl
/-- The k-th of a state's numbers. -/
def L4.at4 (s : L4 PP) : Nat → Fin PP
  | 0 => s.a
  | 1 => s.b
  | 2 => s.c
  | _ => s.d
def L4.put4 (s : L4 PP) (k : Nat) (x : Fin PP) : L4 PP :=
  match k with
  | 0 => ⟨x, s.b, s.c, s.d⟩
  | 1 => ⟨s.a, x, s.c, s.d⟩
  | 2 => ⟨s.a, s.b, x, s.d⟩
  | _ => ⟨s.a, s.b, s.c, x⟩
theorem at_sv (s : L4 PP) {k j : Nat} (hk : k < 4) (v : Value) (h : (ev (s.at4 k)).toList[j]? = some v) : (sv s)[4 * k + j]? = some v := by
  have hj : j < 4 := by have := (List.getElem?_eq_some_iff.1 h).1; exact this
  have hl : (sv s)[4 * k + j]? = (sv s).toList[4 * k + j]? := by simp
  rw [hl, sv_list]
  rcases (show k = 0 ∨ k = 1 ∨ k = 2 ∨ k = 3 by omega) with rfl | rfl | rfl | rfl <;> rcases (show j = 0 ∨ j = 1 ∨ j = 2 ∨ j = 3 by omega) with rfl | rfl | rfl | rfl <;> exact h
theorem range_sv {W : World} {g : Nat} {t : TypeId} {s : L4 PP} (h : Blk W g t (sv s)) {k : Nat} (hk : k < 4) : W.rangeAt g (4 * k) (ev (s.at4 k)).toList := fun j v hv => by
  rw [h.cell]
  exact at_sv s hk v hv
theorem there_sv {W : World} {g : Nat} {t : TypeId} {s : L4 PP} (h : Blk W g t (sv s)) {k : Nat} (hk : k < 4) : W.there g (4 * k) 4 := fun j hj => by
  refine ⟨?_, h.frozen _⟩
  rw [h.cell, Array.getElem?_eq_getElem (show 4 * k + j < (sv s).size by rw [sv_size]; omega)]
  rfl
/-- Cells that are written one after another. -/
def setL (cs : Array Value) (o : Nat) : List Value → Array Value
  | [] => cs
  | v :: r => setL (cs.setIfInBounds o v) (o + 1) r
theorem four_list (A : Array Value) (h : A.size = 4) : ∃ p q r t, A = #[p, q, r, t] := by
  obtain ⟨l⟩ := A
  match l, h with
  | [p, q, r, t], _ => exact ⟨p, q, r, t, rfl⟩
theorem setL_four (A B C D X : Array Value) (ha : A.size = 4) (hb : B.size = 4) (hc : C.size = 4) (hd : D.size = 4) (hx : X.size = 4) :
    setL (A ++ B ++ C ++ D) 0 X.toList = X ++ B ++ C ++ D ∧ setL (A ++ B ++ C ++ D) 4 X.toList = A ++ X ++ C ++ D ∧ setL (A ++ B ++ C ++ D) 8 X.toList = A ++ B ++ X ++ D ∧ setL (A ++ B ++ C ++ D) 12 X.toList = A ++ B ++ C ++ X := by
  obtain ⟨a1, a2, a3, a4, rfl⟩ := four_list A ha
  obtain ⟨b1, b2, b3, b4, rfl⟩ := four_list B hb
  obtain ⟨c1, c2, c3, c4, rfl⟩ := four_list C hc
  obtain ⟨d1, d2, d3, d4, rfl⟩ := four_list D hd
  obtain ⟨x1, x2, x3, x4, rfl⟩ := four_list X hx
  refine ⟨?_, ?_, ?_, ?_⟩ <;> simp [setL]
attribute [local irreducible] ev
theorem setL_sv (s : L4 PP) {k : Nat} (hk : k < 4) (x : Fin PP) : setL (sv s) (4 * k) (ev x).toList = sv (s.put4 k x) := by
  have h := setL_four (ev s.a) (ev s.b) (ev s.c) (ev s.d) (ev x) (ev_size _) (ev_size _) (ev_size _) (ev_size _) (ev_size _)
  have e0 : sv (s.put4 0 x) = ev x ++ ev s.b ++ ev s.c ++ ev s.d := rfl
  have e1 : sv (s.put4 1 x) = ev s.a ++ ev x ++ ev s.c ++ ev s.d := rfl
  have e2 : sv (s.put4 2 x) = ev s.a ++ ev s.b ++ ev x ++ ev s.d := rfl
  have e3 : sv (s.put4 3 x) = ev s.a ++ ev s.b ++ ev s.c ++ ev x := rfl
  have e : sv s = ev s.a ++ ev s.b ++ ev s.c ++ ev s.d := rfl
  rcases (show k = 0 ∨ k = 1 ∨ k = 2 ∨ k = 3 by omega) with rfl | rfl | rfl | rfl
  · rw [e0, e, ← h.1]
  · rw [e1, e, ← h.2.1]
  · rw [e2, e, ← h.2.2.1]
  · rw [e3, e, ← h.2.2.2]
theorem Fr.setCells {w : World} {g : Nat} {t : TypeId} {L : List (Nat × TypeId × Array Value)} {R : List (Nat × TypeId × Nat)} (hL : ∀ p ∈ L, p.1 ≠ g) (hR : ∀ p ∈ R, p.1 ≠ g) (hw : w.heap.size ≤ g) :
    ∀ (vs : List Value) (o : Nat) (cs : Array Value) (W : World), Fr w W ((g, t, cs) :: L) R → Fr w (W.setCells g o vs) ((g, t, setL cs o vs) :: L) R
  | [], _, _, _, h => h
  | v :: r, o, cs, W, h => Fr.setCells hL hR hw r (o + 1) _ _ (h.setHead hL hR o v hw)
/-- A state's number is loaded. -/
theorem wpList_load_sv {ops : Array Oper} {rest : List Oper} {op : Oper} {a : Act} {w : World} {Q : Exit → Act → World → Prop} (hgd : op.guard = none) (x : Operand) (ho : op.op = .load 27 x)
    (g k : Nat) (hk : k < 4) (hx : a.eval x = .pointer (some ⟨g, 4 * k, none⟩)) (t : TypeId) (s : L4 PP) (hb : Blk w g t (sv s))
    (h : wpList Tryd.prog ops Q rest (a.put op.dst (.agg (ev (s.at4 k)))) w) : wpList Tryd.prog ops Q (op :: rest) a w :=
  wpList_load_mid hgd 27 x ho g (4 * k) hx (ev (s.at4 k)).toList _ (range_sv hb hk) Tryd.underlying27 rfl (info_ev _) h
/-- A state's number is stored. -/
theorem wpList_store_sv {ops : Array Oper} {rest : List Oper} {op : Oper} {a : Act} {w : World} {Q : Exit → Act → World → Prop} (hgd : op.guard = none) (x y : Operand) (ho : op.op = .store 27 x y)
    (g k : Nat) (hk : k < 4) (hx : a.eval x = .pointer (some ⟨g, 4 * k, none⟩)) (v : Fin PP) (hy : a.eval y = .agg (ev v)) (t : TypeId) (s : L4 PP) (hb : Blk w g t (sv s))
    (h : wpList Tryd.prog ops Q rest (a.put op.dst undef) (w.setCells g (4 * k) (ev v).toList)) : wpList Tryd.prog ops Q (op :: rest) a w :=
  wpList_store_mid hgd 27 x y ho g (4 * k) (ev v) hx hy (by rw [ev_size]; exact there_sv hb hk) (info_ev _) (ev_one _) h
theorem yields_sv {ops : Array Oper} {S : World → Prop} {op : Oper} {a : Act} (hw : Region.wanted op (yielded ops a.tmps) = true) (x : Operand) (ho : op.op = .load 27 x)
    (g k : Nat) (hk : k < 4) (hx : a.eval x = .pointer (some ⟨g, 4 * k, none⟩)) (t : TypeId) (s : L4 PP) (hS : ∀ w, S w → Blk w g t (sv s)) : YieldsIf Tryd.prog ops S op (.agg (ev (s.at4 k))) a :=
  yieldsIf_load_mid hw 27 x ho g (4 * k) hx (ev (s.at4 k)).toList _ (fun w h => range_sv (hS w h) hk) Tryd.underlying27 rfl (info_ev _)
def ZS : L4 PP := ⟨sm 0, sm 0, sm 0, sm 0⟩
theorem sv_zero : sv ZS = #[.int .u64 0, .int .u64 0, .int .u64 0, .int .u64 0, .int .u64 0, .int .u64 0, .int .u64 0, .int .u64 0, .int .u64 0, .int .u64 0, .int .u64 0, .int .u64 0, .int .u64 0, .int .u64 0, .int .u64 0, .int .u64 0] := by kernel_rfl
attribute [local irreducible] sv
def SPost (s : L4 PP) (w : World) (e : Ending) (w' : World) : Prop := e = .returned (.agg (sv s)) ∧ Below w.heap.size w w'
theorem lsw_yes (s : L4 PP) : (((s.put4 0 s.c).put4 2 s.a).put4 1 s.d).put4 3 s.b = lsw true s := rfl
theorem lsw_no (s : L4 PP) : (((s.put4 0 s.a).put4 2 s.c).put4 1 s.b).put4 3 s.d = lsw false s := rfl
set_option maxRecDepth 100000 in
set_option maxHeartbeats 400000 in
theorem swapped_yes (s : L4 PP) (w : World) : Calls Tryd.prog 92 #[.agg (sv s), .bool true] w (SPost (lsw true s) w) := by
  have hfr := ((Fr.start w).row (sv s) 109 (g := w.heap.size) rfl).any (sv ZS) 109 16 (sv_size _) (g := w.heap.size + 1) (by simp)
  rw [sv_zero] at hfr
  have k0 := hfr.get (g := w.heap.size) (t := 109) (cs := sv s) (by simp)
  have HF := Lib.hid hfr
  have HK := Lib.hid k0
  clear hfr k0
  go_enter Tryd.func92, Tryd.ntmps92
  go_wp2_with (first | (refine wpList_load_sv rfl (.tmp 6) rfl (w.heap.size) 0 (by omega) rfl 109 s HK.out ?_) | (refine wpList_load_sv rfl (.tmp 8) rfl (w.heap.size) 2 (by omega) rfl 109 s HK.out ?_))
  clear HK
  refine (swapF_yes s.a s.c _).mono ?_
  rintro e v1 ⟨rfl, hb⟩
  have hf := HF.out.ext hb
  have k0 := hf.get (g := w.heap.size) (t := 109) (cs := sv s) (by simp)
  have f1 := Fr.setCells (by simp) (by simp <;> omega) (by omega) (ev s.c).toList (4 * 0) (sv s) _ hf
  rw [setL_sv s (by omega)] at f1
  have k1 := f1.get (g := w.heap.size) (t := 109) (cs := sv (s.put4 0 s.c)) (by simp)
  have f2 := Fr.setCells (by simp) (by simp <;> omega) (by omega) (ev s.a).toList (4 * 2) (sv (s.put4 0 s.c)) _ f1
  rw [setL_sv (s.put4 0 s.c) (by omega)] at f2
  have k2 := f2.get (g := w.heap.size) (t := 109) (cs := sv ((s.put4 0 s.c).put4 2 s.a)) (by simp)
  have K0 := Lib.hid k0
  have K1 := Lib.hid k1
  have K2 := Lib.hid k2
  have HF2 := Lib.hid f2
  clear hb hf f1 f2 k0 k1 k2 HF
  go_wp2_with (first | (refine wpList_store_sv rfl (.tmp 14) (.tmp 12) rfl (w.heap.size) 0 (by omega) rfl s.c rfl 109 s K0.out ?_) | (refine wpList_store_sv rfl (.tmp 15) (.tmp 13) rfl (w.heap.size) 2 (by omega) rfl s.a rfl 109 (s.put4 0 s.c) K1.out ?_) | (refine wpList_load_sv rfl (.tmp 17) rfl (w.heap.size) 1 (by omega) rfl 109 ((s.put4 0 s.c).put4 2 s.a) K2.out ?_) | (refine wpList_load_sv rfl (.tmp 19) rfl (w.heap.size) 3 (by omega) rfl 109 ((s.put4 0 s.c).put4 2 s.a) K2.out ?_))
  clear K0 K1 K2
  refine (swapF_yes s.b s.d _).mono ?_
  rintro e v2 ⟨rfl, hb⟩
  have hf := HF2.out.ext hb
  have k0 := hf.get (g := w.heap.size) (t := 109) (cs := sv ((s.put4 0 s.c).put4 2 s.a)) (by simp)
  have f1 := Fr.setCells (by simp) (by simp <;> omega) (by omega) (ev s.d).toList (4 * 1) (sv ((s.put4 0 s.c).put4 2 s.a)) _ hf
  rw [setL_sv ((s.put4 0 s.c).put4 2 s.a) (by omega)] at f1
  have k1 := f1.get (g := w.heap.size) (t := 109) (cs := sv (((s.put4 0 s.c).put4 2 s.a).put4 1 s.d)) (by simp)
  have f2 := Fr.setCells (by simp) (by simp <;> omega) (by omega) (ev s.b).toList (4 * 3) (sv (((s.put4 0 s.c).put4 2 s.a).put4 1 s.d)) _ f1
  rw [setL_sv (((s.put4 0 s.c).put4 2 s.a).put4 1 s.d) (by omega), lsw_yes s] at f2
  obtain ⟨z, hz⟩ : ∃ z, z = lsw true s := ⟨_, rfl⟩
  rw [← hz] at f2
  have HZ := Lib.hid hz
  clear hz
  have k2 := f2.get (g := w.heap.size) (t := 109) (cs := sv z) (by simp)
  obtain ⟨old, hold, kR⟩ := f2.old (g := w.heap.size + 1) (t := 109) (n := 16) (by simp)
  have kS := kR.setRow_same (sv z)
  have hB := below_setRow f2.below (show w.heap.size ≤ w.heap.size + 1 by omega) (sv z)
  have hold' : old.size = (sv z).size := by rw [hold, sv_size]
  have K0 := Lib.hid k0
  have K1 := Lib.hid k1
  have K2 := Lib.hid k2
  have KR := Lib.hid kR
  have HS := Lib.hid kS
  have HB := Lib.hid hB
  have HO := Lib.hid hold'
  clear hb hf f1 f2 k0 k1 k2 kR kS hB hold hold' HF2
  go_wp2_with (first | (refine wpList_store_sv rfl (.tmp 25) (.tmp 23) rfl (w.heap.size) 1 (by omega) rfl s.d rfl 109 ((s.put4 0 s.c).put4 2 s.a) K0.out ?_) | (refine wpList_store_sv rfl (.tmp 26) (.tmp 24) rfl (w.heap.size) 3 (by omega) rfl s.b rfl 109 (((s.put4 0 s.c).put4 2 s.a).put4 1 s.d) K1.out ?_) | (refine wpList_load_row rfl 109 (.tmp 2) rfl (w.heap.size) rfl 109 (sv z) (0, 0) _ K2.out Tryd.underlying109 rfl (info_sv _) ?_) | (refine wpList_store_row rfl 109 (.tmp 4) (.tmp 27) rfl (w.heap.size + 1) (sv z) rfl rfl 109 old KR.out (info_sv _) HO.out (sv_one _) ?_))
  exact bodyPost_ret (results_cell_row rfl _ _ (w.heap.size + 1) 109 (sv z) (0, 0) _ rfl HS.out Tryd.underlying109 rfl (info_sv z)) rfl ⟨by rw [HZ.out], HB.out⟩
set_option maxRecDepth 100000 in
set_option maxHeartbeats 400000 in
theorem swapped_no (s : L4 PP) (w : World) : Calls Tryd.prog 92 #[.agg (sv s), .bool false] w (SPost (lsw false s) w) := by
  have hfr := ((Fr.start w).row (sv s) 109 (g := w.heap.size) rfl).any (sv ZS) 109 16 (sv_size _) (g := w.heap.size + 1) (by simp)
  rw [sv_zero] at hfr
  have k0 := hfr.get (g := w.heap.size) (t := 109) (cs := sv s) (by simp)
  have HF := Lib.hid hfr
  have HK := Lib.hid k0
  clear hfr k0
  go_enter Tryd.func92, Tryd.ntmps92
  go_wp2_with (first | (refine wpList_load_sv rfl (.tmp 6) rfl (w.heap.size) 0 (by omega) rfl 109 s HK.out ?_) | (refine wpList_load_sv rfl (.tmp 8) rfl (w.heap.size) 2 (by omega) rfl 109 s HK.out ?_))
  clear HK
  refine (swapF_no s.a s.c _).mono ?_
  rintro e v1 ⟨rfl, hb⟩
  have hf := HF.out.ext hb
  have k0 := hf.get (g := w.heap.size) (t := 109) (cs := sv s) (by simp)
  have f1 := Fr.setCells (by simp) (by simp <;> omega) (by omega) (ev s.a).toList (4 * 0) (sv s) _ hf
  rw [setL_sv s (by omega)] at f1
  have k1 := f1.get (g := w.heap.size) (t := 109) (cs := sv (s.put4 0 s.a)) (by simp)
  have f2 := Fr.setCells (by simp) (by simp <;> omega) (by omega) (ev s.c).toList (4 * 2) (sv (s.put4 0 s.a)) _ f1
  rw [setL_sv (s.put4 0 s.a) (by omega)] at f2
  have k2 := f2.get (g := w.heap.size) (t := 109) (cs := sv ((s.put4 0 s.a).put4 2 s.c)) (by simp)
  have K0 := Lib.hid k0
  have K1 := Lib.hid k1
  have K2 := Lib.hid k2
  have HF2 := Lib.hid f2
  clear hb hf f1 f2 k0 k1 k2 HF
  go_wp2_with (first | (refine wpList_store_sv rfl (.tmp 14) (.tmp 12) rfl (w.heap.size) 0 (by omega) rfl s.a rfl 109 s K0.out ?_) | (refine wpList_store_sv rfl (.tmp 15) (.tmp 13) rfl (w.heap.size) 2 (by omega) rfl s.c rfl 109 (s.put4 0 s.a) K1.out ?_) | (refine wpList_load_sv rfl (.tmp 17) rfl (w.heap.size) 1 (by omega) rfl 109 ((s.put4 0 s.a).put4 2 s.c) K2.out ?_) | (refine wpList_load_sv rfl (.tmp 19) rfl (w.heap.size) 3 (by omega) rfl 109 ((s.put4 0 s.a).put4 2 s.c) K2.out ?_))
  clear K0 K1 K2
  refine (swapF_no s.b s.d _).mono ?_
  rintro e v2 ⟨rfl, hb⟩
  have hf := HF2.out.ext hb
  have k0 := hf.get (g := w.heap.size) (t := 109) (cs := sv ((s.put4 0 s.a).put4 2 s.c)) (by simp)
  have f1 := Fr.setCells (by simp) (by simp <;> omega) (by omega) (ev s.b).toList (4 * 1) (sv ((s.put4 0 s.a).put4 2 s.c)) _ hf
  rw [setL_sv ((s.put4 0 s.a).put4 2 s.c) (by omega)] at f1
  have k1 := f1.get (g := w.heap.size) (t := 109) (cs := sv (((s.put4 0 s.a).put4 2 s.c).put4 1 s.b)) (by simp)
  have f2 := Fr.setCells (by simp) (by simp <;> omega) (by omega) (ev s.d).toList (4 * 3) (sv (((s.put4 0 s.a).put4 2 s.c).put4 1 s.b)) _ f1
  rw [setL_sv (((s.put4 0 s.a).put4 2 s.c).put4 1 s.b) (by omega), lsw_no s] at f2
  obtain ⟨z, hz⟩ : ∃ z, z = lsw false s := ⟨_, rfl⟩
  rw [← hz] at f2
  have HZ := Lib.hid hz
  clear hz
  have k2 := f2.get (g := w.heap.size) (t := 109) (cs := sv z) (by simp)
  obtain ⟨old, hold, kR⟩ := f2.old (g := w.heap.size + 1) (t := 109) (n := 16) (by simp)
  have kS := kR.setRow_same (sv z)
  have hB := below_setRow f2.below (show w.heap.size ≤ w.heap.size + 1 by omega) (sv z)
  have hold' : old.size = (sv z).size := by rw [hold, sv_size]
  have K0 := Lib.hid k0
  have K1 := Lib.hid k1
  have K2 := Lib.hid k2
  have KR := Lib.hid kR
  have HS := Lib.hid kS
  have HB := Lib.hid hB
  have HO := Lib.hid hold'
  clear hb hf f1 f2 k0 k1 k2 kR kS hB hold hold' HF2
  go_wp2_with (first | (refine wpList_store_sv rfl (.tmp 25) (.tmp 23) rfl (w.heap.size) 1 (by omega) rfl s.b rfl 109 ((s.put4 0 s.a).put4 2 s.c) K0.out ?_) | (refine wpList_store_sv rfl (.tmp 26) (.tmp 24) rfl (w.heap.size) 3 (by omega) rfl s.d rfl 109 (((s.put4 0 s.a).put4 2 s.c).put4 1 s.b) K1.out ?_) | (refine wpList_load_row rfl 109 (.tmp 2) rfl (w.heap.size) rfl 109 (sv z) (0, 0) _ K2.out Tryd.underlying109 rfl (info_sv _) ?_) | (refine wpList_store_row rfl 109 (.tmp 4) (.tmp 27) rfl (w.heap.size + 1) (sv z) rfl rfl 109 old KR.out (info_sv _) HO.out (sv_one _) ?_))
  exact bodyPost_ret (results_cell_row rfl _ _ (w.heap.size + 1) 109 (sv z) (0, 0) _ rfl HS.out Tryd.underlying109 rfl (info_sv z)) rfl ⟨by rw [HZ.out], HB.out⟩
theorem swapped_any (t : Bool) (s : L4 PP) (w : World) : Calls Tryd.prog 92 #[.agg (sv s), .bool t] w (SPost (lsw t s) w) := by
  cases t
  · exact swapped_no s w
  · exact swapped_yes s w
end Go.Proofs.YtcijaoihcckofaaDoor
namespace Go.Proofs.YtcijaoihcckofaaDoor
set_option linter.unusedVariables false
set_option linter.unusedSimpArgs false
/-- A digit is put in the place of another one. -/
theorem digit_put {b n m k x : Nat} (hb : 0 < b) (hx : x < b) (h : m + b ^ k * (n / b ^ k % b) = n + b ^ k * x) (j : Nat) : m / b ^ j % b = if j = k then x else n / b ^ j % b := by
  have hp : 0 < b ^ k := Nat.pow_pos hb
  have hn : n = n % b ^ k + b ^ k * (n / b ^ k % b + b * (n / b ^ (k + 1))) := by
    have h1 := Nat.mod_add_div n (b ^ k)
    have h2 := Nat.mod_add_div (n / b ^ k) b
    rw [Nat.div_div_eq_div_mul, ← Nat.pow_succ] at h2
    rw [h2, h1]
  have hm : m = n % b ^ k + b ^ k * (x + b * (n / b ^ (k + 1))) := by
    generalize n / b ^ (k + 1) = hi at *
    generalize n / b ^ k % b = d at *
    rw [Nat.mul_add] at hn ⊢
    omega
  have hlo : n % b ^ k < b ^ k := Nat.mod_lt _ hp
  have hdiv : m / b ^ k = x + b * (n / b ^ (k + 1)) := by
    rw [hm, Nat.add_mul_div_left _ _ hp, Nat.div_eq_of_lt hlo, Nat.zero_add]
  have hmod : m % b ^ k = n % b ^ k := by
    rw [hm, Nat.add_mul_mod_self_left, Nat.mod_mod]
  by_cases hj : j = k
  · subst hj
    rw [if_pos rfl, hdiv, Nat.add_mul_mod_self_left, Nat.mod_eq_of_lt hx]
  · rw [if_neg hj]
    by_cases hlt : j < k
    · have h1 := dig_mod b m k j hb
      have h2 := dig_mod b n k j hb
      rw [if_pos hlt] at h1 h2
      rw [← h1, ← h2, hmod]
    · obtain ⟨d, rfl⟩ : ∃ d, j = k + 1 + d := ⟨j - k - 1, by omega⟩
      have h1 : m / b ^ (k + 1) = n / b ^ (k + 1) := by
        rw [Nat.pow_succ, ← Nat.div_div_eq_div_mul, hdiv, Nat.add_mul_div_left _ _ hb, Nat.div_eq_of_lt hx, Nat.zero_add, Nat.pow_succ]
      rw [Nat.pow_add, ← Nat.div_div_eq_div_mul, ← Nat.div_div_eq_div_mul, h1]
theorem digit_above {b n m k x : Nat} (hb : 0 < b) (hx : x < b) (h : m + b ^ k * (n / b ^ k % b) = n + b ^ k * x) : m / b ^ (k + 1) = n / b ^ (k + 1) := by
  have hp : 0 < b ^ k := Nat.pow_pos hb
  have h1 := Nat.mod_add_div n (b ^ k)
  have h2 := Nat.mod_add_div (n / b ^ k) b
  rw [Nat.div_div_eq_div_mul, ← Nat.pow_succ] at h2
  have hlo : n % b ^ k < b ^ k := Nat.mod_lt _ hp
  have hm : m = n % b ^ k + b ^ k * (x + b * (n / b ^ (k + 1))) := by
    generalize n / b ^ (k + 1) = hi at *
    generalize n / b ^ k % b = d at *
    rw [← h2] at h1
    rw [Nat.mul_add] at h1 ⊢
    omega
  have hdiv : m / b ^ k = x + b * (n / b ^ (k + 1)) := by
    rw [hm, Nat.add_mul_div_left _ _ hp, Nat.div_eq_of_lt hlo, Nat.zero_add]
  rw [Nat.pow_succ, ← Nat.div_div_eq_div_mul, hdiv, Nat.add_mul_div_left _ _ hb, Nat.div_eq_of_lt hx, Nat.zero_add, Nat.pow_succ]
theorem digit_le {b : Nat} (n k : Nat) : b ^ k * (n / b ^ k % b) ≤ n :=
  Nat.le_trans (Nat.mul_le_mul_left _ (Nat.mod_le _ _)) (by rw [Nat.mul_comm]; exact Nat.div_mul_le_self _ _)
/-- n with x in the place of digit k. -/
def putd (b n k x : Nat) : Nat := n - b ^ k * (n / b ^ k % b) + b ^ k * x
theorem putd_eq (b n k x : Nat) : putd b n k x + b ^ k * (n / b ^ k % b) = n + b ^ k * x := by
  have := digit_le (b := b) n k
  unfold putd
  generalize b ^ k * (n / b ^ k % b) = X at *
  generalize b ^ k * x = Y at *
  omega
def ScaleAt (b q a c0 k v c : Nat) : Prop := v / b ^ k = a / b ^ k ∧ v + b ^ k * c = a + (q - 1) * (a % b ^ k) + c0 ∧ c < q
theorem scale_start (b a : Nat) {q c0 : Nat} (h : c0 < q) : ScaleAt b q a c0 0 a c0 := by
  unfold ScaleAt
  rw [Nat.pow_zero, Nat.mod_one]
  omega
theorem scale_step {b q a c0 k v c : Nat} (hb : 0 < b) (hq : 0 < q) (h : ScaleAt b q a c0 k v c) :
    ScaleAt b q a c0 (k + 1) (putd b v k ((q * (v / b ^ k % b) + c) % b)) ((q * (v / b ^ k % b) + c) / b) := by
  obtain ⟨h1, h2, h3⟩ := h
  have hs : (q * (v / b ^ k % b) + c) % b < b := Nat.mod_lt _ hb
  have hp := putd_eq b v k ((q * (v / b ^ k % b) + c) % b)
  have hx : (q * (v / b ^ k % b) + c) / b < q := by
    rw [Nat.div_lt_iff_lt_mul hb]
    have : v / b ^ k % b ≤ b - 1 := by have := Nat.mod_lt (v / b ^ k) hb; omega
    have h5 := Nat.mul_le_mul_left q this
    have h6 : q * (b - 1) + q = q * b := by
      rw [← Nat.mul_succ]
      congr 1
      omega
    omega
  refine ⟨?_, ?_, hx⟩
  · rw [digit_above hb hs hp, Nat.pow_succ, ← Nat.div_div_eq_div_mul, ← Nat.div_div_eq_div_mul, h1]
  · rw [Nat.mod_pow_succ, Nat.pow_succ]
    rw [h1] at hp ⊢
    have e := Nat.mod_add_div (q * (a / b ^ k % b) + c) b
    generalize (q * (a / b ^ k % b) + c) % b = s at *
    generalize (q * (a / b ^ k % b) + c) / b = j at *
    generalize putd b v k s = v' at *
    generalize a / b ^ k % b = x at *
    generalize b ^ k = P at *
    have e2 := congrArg (P * ·) e
    simp only [Nat.mul_add] at e2
    rw [← Nat.mul_assoc] at e2
    obtain ⟨q', rfl⟩ : ∃ q', q = q' + 1 := ⟨q - 1, by omega⟩
    rw [Nat.add_sub_cancel, Nat.mul_add]
    rw [Nat.add_sub_cancel] at h2
    have e3 : P * ((q' + 1) * x) = q' * (P * x) + P * x := by rw [Nat.add_mul, Nat.mul_add, Nat.one_mul]; congr 1; ac_rfl
    omega
theorem scale_end {b q a c0 n v c : Nat} (h : ScaleAt b q a c0 n v c) (ha : a < b ^ n) (hq : 0 < q) (hl : q * a + c0 < b ^ n) : v = q * a + c0 := by
  obtain ⟨h1, h2, h3⟩ := h
  rw [Nat.mod_eq_of_lt ha] at h2
  obtain ⟨q', rfl⟩ : ∃ q', q = q' + 1 := ⟨q - 1, by omega⟩
  rw [Nat.add_sub_cancel] at h2
  rw [Nat.add_mul, Nat.one_mul] at hl ⊢
  rcases Nat.eq_zero_or_pos c with hc | hc
  · subst hc
    omega
  · have := Nat.mul_le_mul_left (b ^ n) hc
    omega
end Go.Proofs.YtcijaoihcckofaaDoor
namespace Go.Proofs.YtcijaoihcckofaaDoor
set_option linter.unusedVariables false
set_option linter.unusedSimpArgs false
open Go.RowKit
/-- The sixteen digits of a number, the lowest first. -/
def dg (n : Nat) : List Nat := (List.range 16).map fun i => n / 65536 ^ i % 65536
theorem dg_len (n : Nat) : (dg n).length = 16 := by simp [dg]
theorem dg_get (n : Nat) {i : Nat} (h : i < 16) : (dg n)[i]? = some (n / 65536 ^ i % 65536) := by simp [dg, h]
/-- The cells of a number. -/
def ds (n : Nat) : Array Value := ncs .u64 (dg n)
theorem ds_size (n : Nat) : (ds n).size = 16 := by rw [ds, ncs_size, dg_len]
theorem ds_get (n : Nat) {i : Nat} (h : i < 16) : (ds n)[i]? = some (.int .u64 ((n / 65536 ^ i % 65536 : Nat) : Int)) := by rw [ds, ncs_get, dg_get n h]; rfl
theorem ds_one (n : Nat) : (ds n).all (·.oneCell') = true := ncs_one _ _
theorem info_num : (Tryd.prog.info? 33).map (·.size) = some 16 := by kernel_rfl
theorem info_ds (n : Nat) : (Tryd.prog.info? 33).map (·.size) = some (ds n).size := by rw [ds_size]; exact info_num
theorem ds_zero : ds 0 = #[.int .u64 0, .int .u64 0, .int .u64 0, .int .u64 0, .int .u64 0, .int .u64 0, .int .u64 0, .int .u64 0, .int .u64 0, .int .u64 0, .int .u64 0, .int .u64 0, .int .u64 0, .int .u64 0, .int .u64 0, .int .u64 0] := by kernel_rfl
/-- Two bytes are a digit. -/
theorem two_bytes (n i : Nat) : n / 256 ^ (2 * i) % 256 + 256 * (n / 256 ^ (2 * i + 1) % 256) = n / 65536 ^ i % 65536 := by
  have h1 : 256 ^ (2 * i) = 65536 ^ i := by rw [Nat.pow_mul]
  have h2 : n / 256 ^ (2 * i + 1) = n / 65536 ^ i / 256 := by rw [Nat.pow_succ, h1, Nat.div_div_eq_div_mul]
  rw [h1, h2]
  omega
def NumPost (n : Nat) (w : World) (e : Ending) (w' : World) : Prop := e = .returned (.agg (ds n)) ∧ Below w.heap.size w w'
theorem digit_low (n k : Nat) : n / 65536 ^ k % 65536 % 256 = n / 256 ^ (2 * k) % 256 := by rw [← two_bytes]; omega
theorem digit_high (n k : Nat) : n / 65536 ^ k % 65536 / 256 % 256 = n / 256 ^ (2 * k + 1) % 256 := by rw [← two_bytes]; omega
theorem ks_two (n k : Nat) (hk : k < 16) : ((ks (n % 65536 ^ k)).setIfInBounds (2 * k) (.int .u8 ((n / 256 ^ (2 * k) % 256 : Nat) : Int))).setIfInBounds (2 * k + 1) (.int .u8 ((n / 256 ^ (2 * k + 1) % 256 : Nat) : Int)) = ks (n % 65536 ^ (k + 1)) := by
  have h1 : ∀ j, 65536 ^ j = 256 ^ (2 * j) := fun j => by rw [Nat.pow_mul]
  rw [h1 k, ks_step n (2 * k) (by omega), ks_step n (2 * k + 1) (by omega), h1 (k + 1), Nat.mul_add]
theorem ks_two' (n k : Nat) (hk : k < 16) : ((ks (n % 65536 ^ k)).setIfInBounds (2 * k + 1) (.int .u8 ((n / 256 ^ (2 * k + 1) % 256 : Nat) : Int))).setIfInBounds (2 * k) (.int .u8 ((n / 256 ^ (2 * k) % 256 : Nat) : Int)) = ks (n % 65536 ^ (k + 1)) := by
  rw [← ks_two n k hk]
  apply Array.ext_getElem?
  intro i
  simp only [Array.getElem?_setIfInBounds, Array.size_setIfInBounds]
  by_cases a : 2 * k = i
  · have b : 2 * k + 1 ≠ i := by omega
    simp [a, b]
  · simp [a]
set_option maxRecDepth 100000 in
set_option maxHeartbeats 1000000 in
theorem rbytes_any (n : Nat) (w : World) (hn : n < 115792089237316195423570985008687907853269984665640564039457584007913129639936) :
    Calls Tryd.prog 17 #[.agg (ds n)] w (KeyPost n w) := by
  have hfr := ((((Fr.start w).row (ds n) 33 (g := w.heap.size) rfl).any (ks 0) 23 32 (ks_size 0) (g := w.heap.size + 1) (by simp)).row (ks 0) 23 (g := w.heap.size + 1 + 1) (by simp))
  rw [ks_zero] at hfr
  have HFR := Lib.hid hfr
  clear hfr
  have HNN := Lib.hid hn
  clear hn
  go_enter Tryd.func17, Tryd.ntmps17
  go_wp2_with (fail)
  go_loopw [4] (fun c wr => ∃ k : Nat, k ≤ 16 ∧ c = .int .i64 k ∧ Fr w wr [(w.heap.size + 1 + 1, 23, ks (n % 65536 ^ k)), (w.heap.size, 33, ds n)] [(w.heap.size + 1, 23, 32)]) (fun c _ => 16 - (intOf c).toNat)
  case atStart => exact ⟨0, by omega, rfl, by have := HFR.out; rw [Nat.pow_zero, Nat.mod_one, ks_zero]; exact this⟩
  case round =>
    obtain ⟨k, hk, rfl, hF⟩ := hrel
    by_cases hlt : k < 16
    · have hB := hF.get (g := w.heap.size + 1 + 1) (t := 23) (cs := ks (n % 65536 ^ k)) (by simp)
      have hE := hF.get (g := w.heap.size) (t := 33) (cs := ds n) (by simp)
      have hc : wr.cell? ⟨w.heap.size, k, none⟩ = some (.int .u64 ((n / 65536 ^ k % 65536 : Nat) : Int)) := by rw [hE.cell, ds_get _ hlt]
      have hf := hB.frozen (2 * k)
      have hf2 := hB.frozen (2 * k + 1)
      have hd1 : wr.cell? ⟨w.heap.size + 1 + 1, 2 * k, none⟩ = some (.int .u8 ((n % 65536 ^ k / 256 ^ (2 * k) % 256 : Nat) : Int)) := by rw [hB.cell, ks_get _ (by omega)]
      have hd2 : wr.cell? ⟨w.heap.size + 1 + 1, 2 * k + 1, none⟩ = some (.int .u8 ((n % 65536 ^ k / 256 ^ (2 * k + 1) % 256 : Nat) : Int)) := by rw [hB.cell, ks_get _ (by omega)]
      have hlo := digit_low n k
      have hhi := digit_high n k
      rw [Nat.mod_eq_of_lt (show n / 65536 ^ k % 65536 / 256 < 256 by have : n / 65536 ^ k % 65536 < 65536 := Nat.mod_lt _ (by omega); omega)] at hhi
      have hs1 := ks_two n k hlt
      have hs2 := ks_two' n k hlt
      have x0 : n / 65536 ^ k % 65536 < 65536 := Nat.mod_lt _ (by omega)
      have HLO := Lib.hid hlo
      have HHI := Lib.hid hhi
      have HS1 := Lib.hid hs1
      have HS2 := Lib.hid hs2
      have HF := Lib.hid hF
      clear hlo hhi hs1 hs2 hF hB hE
      generalize n % 65536 ^ k / 256 ^ (2 * k) % 256 = z1 at *
      generalize n % 65536 ^ k / 256 ^ (2 * k + 1) % 256 = z2 at *
      generalize n / 65536 ^ k % 65536 = d at *
      have b1 : (0 : Int) ≤ 2 * (k : Int) := by omega
      have b2 : 2 * (k : Int) < 32 := by omega
      have b3 : 2 * (k : Int) + 1 < 32 := by omega
      go_wp2
      go_region
      all_goals go_wp2
      all_goals go_roundw
      case rel =>
        refine ⟨k + 1, by omega, by go_num, ?_⟩
        have e1 : (d : Int) % 256 = ((n / 256 ^ (2 * k) % 256 : Nat) : Int) := by rw [← HLO.out]; omega
        have e2 : (d : Int) / 256 = ((n / 256 ^ (2 * k + 1) % 256 : Nat) : Int) := by rw [← HHI.out]; omega
        rw [e1, e2]
        refine Fr.drew ?_
        first
        | (rw [← HS1.out]; exact (HF.out.setHead (by simp <;> omega) (by simp <;> omega) _ _ (by omega)).setHead (by simp <;> omega) (by simp <;> omega) _ _ (by omega))
        | (rw [← HS2.out]; exact (HF.out.setHead (by simp <;> omega) (by simp <;> omega) _ _ (by omega)).setHead (by simp <;> omega) (by simp <;> omega) _ _ (by omega))
      case measure => simp [intOf]; omega
    · obtain rfl : k = 16 := by omega
      have e16 : n % 65536 ^ 16 = n := Nat.mod_eq_of_lt HNN.out
      rw [e16] at hF
      have kT := hF.get (g := w.heap.size + 1 + 1) (t := 23) (cs := ks n) (by simp)
      obtain ⟨old, hold, kR⟩ := hF.old (g := w.heap.size + 1) (t := 23) (n := 32) (by simp)
      have kS := kR.setRow_same (ks n)
      have hB := below_setRow hF.below (show w.heap.size ≤ w.heap.size + 1 by omega) (ks n)
      have hold' : old.size = (ks n).size := by rw [hold, ks_size]
      have HF := Lib.hid hF
      have HS := Lib.hid kS
      have HB := Lib.hid hB
      have HO := Lib.hid hold'
      clear hF e16 kS hB hold hold'
      go_wp2_with (first | (refine wpList_load_row rfl 23 (.tmp 3) rfl (w.heap.size + 1 + 1) rfl 23 (ks n) (0, 0) _ kT Tryd.underlying23 rfl (info_ks n) ?_) | (refine wpList_store_row rfl 23 (.tmp 2) (.tmp 25) rfl (w.heap.size + 1) (ks n) rfl rfl 23 _ kR (info_ks n) HO.out (ks_one n) ?_))
      exact bodyPost_ret (results_cell_row rfl _ _ (w.heap.size + 1) 23 (ks n) (0, 0) _ rfl HS.out Tryd.underlying23 rfl (info_ks n)) rfl ⟨rfl, HB.out⟩
end Go.Proofs.YtcijaoihcckofaaDoor
namespace Go.Proofs.YtcijaoihcckofaaDoor
set_option linter.unusedVariables false
set_option linter.unusedSimpArgs false
open Go Go.RowKit
/-- The slice '(A, n, c)' reads as the bytes l; what is read lies below block B. -/
structure US (w : World) (B : Nat) (A : Option Addr) (n c : Nat) (l : List Nat) : Prop where
  len : l.length = n
  cap : n ≤ c
  nil_ : A = none → c = 0
  at_ : 0 < n → ∃ b o, A = some ⟨b, o, none⟩ ∧ b < B ∧ ∀ (j x : Nat), l[j]? = some x → w.cell? ⟨b, o + j, none⟩ = some (.int .u64 (x : Int))
section
variable {w w' : World} {B B' n c : Nat} {A : Option Addr} {l : List Nat}
theorem US.nil (w : World) (B : Nat) : US w B none 0 0 [] := ⟨rfl, Nat.le_refl _, fun _ => rfl, fun h => absurd h (by omega)⟩
theorem US.keep (h : US w B A n c l) (hk : ∀ p : Addr, p.block < B → w'.cell? p = w.cell? p) : US w' B A n c l :=
  ⟨h.len, h.cap, h.nil_, fun hn => by
    obtain ⟨b, o, e, hb, hc⟩ := h.at_ hn
    exact ⟨b, o, e, hb, fun j x hx => (hk _ hb).trans (hc j x hx)⟩⟩
theorem US.more (h : US w B A n c l) (hB : B ≤ B') : US w B' A n c l :=
  ⟨h.len, h.cap, h.nil_, fun hn => by
    obtain ⟨b, o, e, hb, hc⟩ := h.at_ hn
    exact ⟨b, o, e, by omega, hc⟩⟩
theorem US.below (h : US w B A n c l) (hb : Below B w w') : US w' B A n c l := h.keep fun _ hp => hb.cell hp
theorem US.drew (h : US w B A n c l) : US w.drew B A n c l := ⟨h.1, h.2, h.3, h.4⟩
theorem US.alloc (h : US w B A n c l) (hB : B ≤ w.heap.size) (o : Obj) : US (w.alloc o) B A n c l := h.keep fun p hp => World.cell?_alloc_lt w o p (by omega)
theorem US.setCell (h : US w B A n c l) {p : Addr} (hB : B ≤ p.block) (u : Value) : US (w.setCell p u) B A n c l :=
  h.keep fun q hq => World.cell?_setCell_other w p q u (fun e => by subst e; omega)
theorem US.grown (h : US w B A n c l) {row : Option Nat} (hg : w.grownBy w' row) (hB : B ≤ w.heap.size) (hr : ∀ g, row = some g → B ≤ g) : US w' B A n c l :=
  h.keep fun p hp => World.cell?_of_block (hg.block p.block (by omega) (fun e => by have := hr _ e.symm; omega))
end
/-- The slice v of bytes l is the call's own: nil and nothing, or the head of a block from 'base' on. -/
def OwnU (w : World) (base : Nat) (e : TypeId) (v : Value) (l : List Nat) : Prop := w.ownsRow base e 1 v l.length (l.map (nc .u64))
section
variable {w w' : World} {base : Nat} {e : TypeId} {v : Value} {l : List Nat}
theorem OwnU.nil (w : World) (base : Nat) (e : TypeId) : OwnU w base e (.slice none 0 0) [] := ⟨rfl, .inl ⟨rfl, rfl⟩⟩
theorem OwnU.alloc (h : OwnU w base e v l) (o : Obj) : OwnU (w.alloc o) base e v l := World.ownsRow.alloc h o
theorem OwnU.drew (h : OwnU w base e v l) : OwnU w.drew base e v l := h
theorem OwnU.own (h : OwnU w base e v l) {g : Nat} (hg : v.ownBlock = some g) : base ≤ g ∧ g < w.heap.size := World.ownsRow.lt h g hg
end
section
variable {P : Program} {w : World} {ops : Array Oper} {rest : List Oper} {o : Oper} {a : Act} {Q : Exit → Act → World → Prop}
end
section
variable {P : Program} {w : World} {ops : Array Oper} {o : Oper} {a : Act} {K : Act → World → Prop} {Q : Exit → Act → World → Prop} {E : Prop}
end
end Go.Proofs.YtcijaoihcckofaaDoor
namespace Go.Proofs.YtcijaoihcckofaaDoor
set_option linter.unusedVariables false
set_option linter.unusedSimpArgs false
open Go Go.RowKit
theorem OwnU.slice {w : World} {base : Nat} {e : TypeId} {v : Value} {l : List Nat} (h : OwnU w base e v l) (hl : 0 < l.length) : ∃ g cap, v = .slice (some ⟨g, 0, none⟩) l.length cap ∧ base ≤ g ∧ g < w.heap.size := by
  rcases h.2 with ⟨_, h0⟩ | ⟨g, cap, cur, rfl, hb, hg, _⟩
  · omega
  · exact ⟨g, cap, rfl, hb, (Array.getElem?_eq_some_iff.1 hg).1⟩
theorem OwnU.cell {w : World} {base g n cap : Nat} {e : TypeId} {l : List Nat} (h : OwnU w base e (.slice (some ⟨g, 0, none⟩) n cap) l) (hn : n = l.length) {j x : Nat} (hx : l[j]? = some x) : w.cell? ⟨g, j, none⟩ = some (.int .u64 (x : Int)) := by
  subst hn
  have hj := (List.getElem?_eq_some_iff.1 hx).1
  have h2 := World.ownsRow.cellAt (size := 1) h j (by omega)
  rw [h2, List.getElem?_map, hx]
  rfl
theorem OwnU.set {w : World} {base g n cap : Nat} {e : TypeId} {l : List Nat} (h : OwnU w base e (.slice (some ⟨g, 0, none⟩) n cap) l) (hn : n = l.length) (j x : Nat) :
    OwnU (w.setCell ⟨g, j, none⟩ (.int .u64 (x : Int))) base e (.slice (some ⟨g, 0, none⟩) n cap) (l.set j x) ∧ w.grownBy (w.setCell ⟨g, j, none⟩ (.int .u64 (x : Int))) (some g) := by
  subst hn
  obtain ⟨h1, h2⟩ := World.ownsRow.stored (size := 1) h j (.int .u64 (x : Int))
  refine ⟨?_, h2⟩
  unfold OwnU
  rw [List.length_set, List.map_set]
  exact h1
end Go.Proofs.YtcijaoihcckofaaDoor
namespace Go.Proofs.YtcijaoihcckofaaDoor
set_option linter.unusedVariables false
set_option linter.unusedSimpArgs false
open Go Go.RowKit
theorem US.head {w : World} {B n c : Nat} {A : Option Addr} {l : List Nat} (h : US w B A n c l) {k : Nat} (hk : k ≤ n) : US w B A k c (l.take k) :=
  ⟨by rw [List.length_take, h.len]; omega, by have := h.cap; omega, h.nil_, fun hp => by
    obtain ⟨b, o, e, hb, hc⟩ := h.at_ (by omega)
    refine ⟨b, o, e, hb, fun j x hx => hc j x ?_⟩
    rw [List.getElem?_take] at hx
    split at hx
    · exact hx
    · cases hx⟩
end Go.Proofs.YtcijaoihcckofaaDoor
namespace Go.Proofs.YtcijaoihcckofaaDoor
set_option linter.unusedVariables false
set_option linter.unusedSimpArgs false
open Go.RowKit
theorem ds_put {n k x : Nat} (hk : k < 16) (hx : x < 65536) : (ds n).setIfInBounds k (.int .u64 (x : Int)) = ds (putd 65536 n k x) := by
  rw [ds, ncs_set, ds]
  congr 1
  apply List.ext_getElem?
  intro j
  rw [List.getElem?_set]
  by_cases hj : j < 16
  · rw [dg_get (putd 65536 n k x) hj, digit_put (by omega) hx (putd_eq 65536 n k x) j]
    by_cases e : k = j
    · subst e
      rw [if_pos rfl, if_pos rfl, dg_len, if_pos hk]
    · rw [if_neg e, if_neg (fun h => e h.symm), dg_get n hj]
  · have : k ≠ j := by omega
    rw [if_neg this, List.getElem?_eq_none (by rw [dg_len]; omega), List.getElem?_eq_none (by rw [dg_len]; omega)]
theorem d16 : (65536 : Nat) ^ 16 = 115792089237316195423570985008687907853269984665640564039457584007913129639936 := by decide
end Go.Proofs.YtcijaoihcckofaaDoor
namespace Go.Proofs.YtcijaoihcckofaaDoor
set_option linter.unusedVariables false
set_option linter.unusedSimpArgs false
open Go Go.RowKit
theorem Fr.keep {w W W' : World} {L : List (Nat × TypeId × Array Value)} {R : List (Nat × TypeId × Nat)} {B : Nat} (h : Fr w W L R) (hb : Below B W W') (hB : w.heap.size ≤ B) (hL : ∀ p ∈ L, p.1 < B) (hR : ∀ p ∈ R, p.1 < B) : Fr w W' L R :=
  ⟨h.below.trans (hb.mono hB), fun p hp => (h.rows p hp).below hb (hL p hp), fun p hp => by
    obtain ⟨cs, e, k⟩ := h.some_ p hp
    exact ⟨cs, e, k.below hb (hR p hp)⟩, h.own⟩
theorem OwnU.frozen {w : World} {base g n cap : Nat} {e : TypeId} {l : List Nat} (h : OwnU w base e (.slice (some ⟨g, 0, none⟩) n cap) l) (hn : n = l.length) (j : Nat) : w.frozen? ⟨g, j, none⟩ = false := by
  subst hn
  exact World.ownsRow.frozenAt (size := 1) h j
end Go.Proofs.YtcijaoihcckofaaDoor
namespace Go.Proofs.YtcijaoihcckofaaDoor
set_option linter.unusedVariables false
set_option linter.unusedSimpArgs false
open Go Go.RowKit
/-- N, of which the first i digits are those of its half. -/
def hgl (N i : Nat) : List Nat := (List.range 16).map fun j => if j < i then N / 2 / 65536 ^ j % 65536 else N / 65536 ^ j % 65536
def hg (N i : Nat) : Array Value := ncs .u64 (hgl N i)
end Go.Proofs.YtcijaoihcckofaaDoor
namespace Go.Proofs.YtcijaoihcckofaaDoor
set_option linter.unusedVariables false
set_option linter.unusedSimpArgs false
open Go.RowKit
/-- A number's digits, of a number modulo p. -/
def dv (x : Fin PP) : Array Value := ds x.val
theorem dv_size (x : Fin PP) : (dv x).size = 16 := ds_size _
section
variable {x y z : Fin PP}
end
end Go.Proofs.YtcijaoihcckofaaDoor
namespace Go.Proofs.YtcijaoihcckofaaDoor
set_option linter.unusedVariables false
set_option linter.unusedSimpArgs false
open Go.RowKit
theorem ks_put {n k x : Nat} (hk : k < 32) (hx : x < 256) : (ks n).setIfInBounds k (.int .u8 (x : Int)) = ks (putd 256 n k x) := by
  rw [ks, ncs_set, ks]
  congr 1
  apply List.ext_getElem?
  intro j
  rw [List.getElem?_set]
  by_cases hj : j < 32
  · rw [kb_get (putd 256 n k x) hj, digit_put (by omega) hx (putd_eq 256 n k x) j]
    by_cases e : k = j
    · subst e
      rw [if_pos rfl, if_pos rfl, kb_len, if_pos hk]
    · rw [if_neg e, if_neg (fun h => e h.symm), kb_get n hj]
  · have : k ≠ j := by omega
    rw [if_neg this, List.getElem?_eq_none (by rw [kb_len]; omega), List.getElem?_eq_none (by rw [kb_len]; omega)]
end Go.Proofs.YtcijaoihcckofaaDoor
namespace Go.Proofs.YtcijaoihcckofaaDoor
set_option linter.unusedVariables false
set_option linter.unusedSimpArgs false
set_option maxRecDepth 100000
open Go.RowKit
theorem inv_num : num4 18446744073709551595 18446744073709551615 18446744073709551615 9223372036854775807 = PP - 2 := by decide +kernel
theorem es_inv : es (PP - 2) = #[.int .u64 18446744073709551595, .int .u64 18446744073709551615, .int .u64 18446744073709551615, .int .u64 9223372036854775807] := es_of_num4 inv_num.symm (by decide) (by decide) (by decide) (by decide)
theorem info_w4s (n : Nat) : (Tryd.prog.info? 25).map (·.size) = some (es n).size := info_w4
set_option maxHeartbeats 1000000 in
theorem inv_any (x : Fin PP) (w : World) (hpg : PG w) : Calls Tryd.prog 38 #[.agg (ev x)] w (EPost (x ^ (PP - 2)) w) := by
  have hfr := (((Fr.start w).row (ev x) 27 (g := w.heap.size) rfl).any (es 0) 27 4 rfl (g := w.heap.size + 1) (by simp)).row (es (PP - 2)) 25 (g := w.heap.size + 1 + 1) (by simp)
  rw [es_zero] at hfr
  have hfr2 := hfr
  rw [es_inv] at hfr2
  have HFR := Lib.hid hfr2
  clear hfr hfr2
  have HPG := Lib.hid hpg
  obtain ⟨hz, p0, p1, p2, p3⟩ := hpg
  have e1 : ¬ (0 = w.heap.size) := by omega
  have e2 : ¬ (w.heap.size = 0) := by omega
  have e3 : ¬ (w.heap.size = 0) := by omega
  have e4 : ¬ (0 = w.heap.size + 1) := by omega
  have e5 : 0 < w.heap.size + 1 + 1 := by omega
  have e6 : 0 < w.heap.size + 1 := by omega
  have e7 : 0 < w.heap.size + 1 + 1 + 1 := by omega
  go_enter Tryd.func38, Tryd.ntmps38
  go_wp2_with (fail)
  refine wp_region_held_drew (S := fun W => Fr w W [(w.heap.size + 1 + 1, 25, es (PP - 2)), (w.heap.size, 27, ev x)] [(w.heap.size + 1, 27, 4)]) (by kernel_rfl) ?_ (fun hHeld => ?_)
  · exact (by rw [es_inv]; exact HFR.out.drew)
  refine wpAnyH_take (i := 0) (v := .agg (ev x)) rfl (by kernel_rfl) (by kernel_rfl) (by kernel_rfl) (fun _ _ _ h => h) (yields_row (by rfl) 27 (.tmp 1) rfl (w.heap.size) rfl 27 (ev x) _ (fun W (h : Fr _ W _ _) => h.get (by simp)) Tryd.underlying27 rfl (info_ev _)) hHeld ?_
  try simp only [Act.put, List.getElem_toArray, List.getElem_cons_succ, List.getElem_cons_zero, List.setIfInBounds_toArray, List.set_cons_zero, List.set_cons_succ]
  refine wpAnyH_take (i := 1) (v := .agg (es (PP - 2))) rfl (by kernel_rfl) (by kernel_rfl) (by kernel_rfl) (fun _ _ _ h => h) (yields_row (by rfl) 25 (.tmp 3) rfl (w.heap.size + 1 + 1) rfl 25 (es (PP - 2)) _ (fun W (h : Fr _ W _ _) => h.get (by simp)) Tryd.underlying25 rfl (info_w4s _)) hHeld ?_
  try simp only [Act.put, List.getElem_toArray, List.getElem_cons_succ, List.getElem_cons_zero, List.setIfInBounds_toArray, List.set_cons_zero, List.set_cons_succ]
  refine wpAnyH_ready (rs := [2]) (by kernel_rfl) (by simp) (AllReadyH.cons rfl (fun K hK => ?_) AllReadyH.nil)
  have h0 := hHeld
  clear hHeld
  try simp only [List.getElem_toArray, List.getElem_cons_succ, List.getElem_cons_zero]
  have H0 := Lib.hid h0
  clear h0
  go_simp
  go_at_call 73
  refine (bytesOf_any (PP - 2) _ (by decide +kernel)).mono ?_
  rintro e vv ⟨rfl, hb⟩
  have h1 := H0.out.ext hb
  clear hb H0
  go_wp2_with (fail)
  refine hK.out _ _ h1 (fun hHeld => ?_)
  clear hK K h1
  try simp only [Act.put, List.getElem_toArray, List.getElem_cons_succ, List.getElem_cons_zero, List.setIfInBounds_toArray, List.set_cons_zero, List.set_cons_succ]
  refine wpAnyH_ready (rs := [3]) (by kernel_rfl) (by simp) (AllReadyH.cons rfl (fun K hK => ?_) AllReadyH.nil)
  have h0 := hHeld
  clear hHeld
  try simp only [List.getElem_toArray, List.getElem_cons_succ, List.getElem_cons_zero]
  have H0 := Lib.hid h0
  clear h0
  go_simp
  go_at_call 72
  refine (powerF x _ (PP - 2) (Fr.pg H0.out HPG.out) (by decide +kernel)).mono ?_
  rintro e vv ⟨rfl, hb⟩
  have h1 := H0.out.ext hb
  clear hb H0
  go_wp2_with (fail)
  refine hK.out _ _ h1 (fun hHeld => ?_)
  clear hK K h1
  try simp only [Act.put, List.getElem_toArray, List.getElem_cons_succ, List.getElem_cons_zero, List.setIfInBounds_toArray, List.set_cons_zero, List.set_cons_succ]
  refine wpAnyH_ready (rs := [4]) (by kernel_rfl) (by simp) (AllReadyH.cons rfl (fun K hK => ?_) AllReadyH.nil)
  have h0 := hHeld
  clear hHeld
  try simp only [List.getElem_toArray, List.getElem_cons_succ, List.getElem_cons_zero]
  rw [if_pos (by rfl)]
  obtain ⟨old, hold, kold⟩ := Fr.old h0 (g := w.heap.size + 1) (t := 27) (n := 4) (by simp)
  refine wp_store_row 27 (.tmp 2) (.tmp 12) rfl (w.heap.size + 1) (ev (x ^ (PP - 2))) rfl rfl 27 old kold (info_ev _) hold (ev_one _) ?_
  refine hK.out _ _ (Fr.setAny h0 (g := w.heap.size + 1) (t := 27) (ev_size _) (by simp) (by simp <;> omega)) (fun hHeld => ?_)
  have kb := kold.setRow_same (ev (x ^ (PP - 2)))
  clear hK K h0 hold
  try simp only [Act.put, List.getElem_toArray, List.getElem_cons_succ, List.getElem_cons_zero, List.setIfInBounds_toArray, List.set_cons_zero, List.set_cons_succ]
  refine wpAnyH_done (by kernel_rfl) ?_ _
  have HF := Lib.hid hHeld
  clear hHeld
  go_wp2_with (fail)
  exact elem_end (g := w.heap.size + 1) rfl rfl rfl kb HF.out.below
end Go.Proofs.YtcijaoihcckofaaDoor
namespace Go.Proofs.YtcijaoihcckofaaDoor
set_option linter.unusedVariables false
set_option linter.unusedSimpArgs false
set_option maxRecDepth 100000
open Go.RowKit
theorem invR {x y : Fin PP} (h : y = x ^ (PP - 2)) (w : World) (hp : PG w) : Calls Tryd.prog 38 #[.agg (ev x)] w (EPost y w) := by
  have h2 := inv_any x w hp
  rw [← h] at h2
  exact h2
end Go.Proofs.YtcijaoihcckofaaDoor
namespace Go.Proofs.YtcijaoihcckofaaDoor
set_option linter.unusedVariables false
set_option linter.unusedSimpArgs false
set_option maxRecDepth 100000
open Go.RowKit
theorem ofR {n : Nat} {x : Fin PP} (h : x = ofK n) (w : World) (hp : PG w) (hn : n < 115792089237316195423570985008687907853269984665640564039457584007913129639936) : Calls Tryd.prog 32 #[.agg (ks n)] w (EPost x w) := by
  rw [h]
  exact ofF n w hp hn
theorem sm_one : sm 1 = 1 := rfl
theorem size_u8' (W : World) : (sizeOf 5).run Tryd.prog W = .ok 1 W := by kernel_rfl
end Go.Proofs.YtcijaoihcckofaaDoor
namespace Go.Proofs.YtcijaoihcckofaaDoor
set_option linter.unusedVariables false
set_option linter.unusedSimpArgs false
open Go.RowKit
theorem keys_same (n : Nat) (W : World) : (Op.equalIn 10000 23 (.agg (ks n)) (.agg (ks n))).run Tryd.prog W = .ok true W := by
  have h2 := run_equalIn_nats (P := Tryd.prog) W 9998 23 5 32 .u8 Tryd.underlying23 Tryd.underlying5 size_u8' (kb n) (kb n) (kb_len n) (kb_len n)
  rw [show (kb n == kb n) = true by simp] at h2
  exact h2
end Go.Proofs.YtcijaoihcckofaaDoor
namespace Go.Proofs.YtcijaoihcckofaaDoor
set_option linter.unusedVariables false
set_option linter.unusedSimpArgs false
set_option maxRecDepth 100000
open Go.RowKit
section
variable {p : Nat} [NeZero p] {e : Nat} {i u v p0 : Fin p}
end
end Go.Proofs.YtcijaoihcckofaaDoor
namespace Go.Proofs.YtcijaoihcckofaaDoor
set_option linter.unusedVariables false
set_option linter.unusedSimpArgs false
set_option maxRecDepth 100000
open Go Go.RowKit
theorem al_elem (W : World) : (Instr.alloc 27 true (.tuple #[])).run Tryd.prog W = .ok (.pointer (some ⟨W.heap.size, 0, none⟩)) (W.alloc (.cells #[.int .u64 0, .int .u64 0, .int .u64 0, .int .u64 0] 27)) := by kernel_rfl
theorem bx_elem (x : Fin PP) (W : World) : (Instr.box 27 (.agg (ev x))).run Tryd.prog W = .ok (.pointer (some ⟨W.heap.size, 0, none⟩)) (W.alloc (.cells (ev x) 27)) := by kernel_rfl
theorem al_pt (W : World) : (Instr.alloc 29 true (.tuple #[])).run Tryd.prog W = .ok (.pointer (some ⟨W.heap.size, 0, none⟩)) (W.alloc (.cells #[.int .u64 0, .int .u64 0, .int .u64 0, .int .u64 0, .int .u64 0, .int .u64 0, .int .u64 0, .int .u64 0, .int .u64 0, .int .u64 0, .int .u64 0, .int .u64 0, .int .u64 0, .int .u64 0, .int .u64 0, .int .u64 0] 29)) := by kernel_rfl
theorem bx_pt (s : L4 PP) (W : World) : (Instr.box 29 (.agg (sv s))).run Tryd.prog W = .ok (.pointer (some ⟨W.heap.size, 0, none⟩)) (W.alloc (.cells (sv s) 29)) := by kernel_rfl
theorem info_pt (s : L4 PP) : (Tryd.prog.info? 29).map (·.size) = some (sv s).size := by rw [sv_size]; kernel_rfl
theorem fa_pt (g : Nat) (W : World) : (Instr.fieldAt 29 (.pointer (some ⟨g, 0, none⟩)) 0).run Tryd.prog W = .ok (.pointer (some ⟨g, 4 * 0, none⟩)) W ∧ (Instr.fieldAt 29 (.pointer (some ⟨g, 0, none⟩)) 1).run Tryd.prog W = .ok (.pointer (some ⟨g, 4 * 1, none⟩)) W ∧ (Instr.fieldAt 29 (.pointer (some ⟨g, 0, none⟩)) 2).run Tryd.prog W = .ok (.pointer (some ⟨g, 4 * 2, none⟩)) W ∧ (Instr.fieldAt 29 (.pointer (some ⟨g, 0, none⟩)) 3).run Tryd.prog W = .ok (.pointer (some ⟨g, 4 * 3, none⟩)) W := by
  refine ⟨by kernel_rfl, by kernel_rfl, by kernel_rfl, by kernel_rfl⟩
theorem ld_pt {g : Nat} {t : TypeId} {s : L4 PP} {k : Nat} (hk : k < 4) (W : World) (h : Blk W g t (sv s)) : (Instr.loadAt 27 (.pointer (some ⟨g, 4 * k, none⟩))).run Tryd.prog W = .ok (.agg (ev (s.at4 k))) W :=
  run_loadAt_mid W g (4 * k) 27 (ev (s.at4 k)).toList _ (range_sv h hk) Tryd.underlying27 rfl (info_ev _)
theorem bd_pt (a b c d : Fin PP) (W : World) : (Instr.build 29 [(0, .agg (ev a)), (1, .agg (ev b)), (2, .agg (ev c)), (3, .agg (ev d))].toArray).run Tryd.prog W = .ok (.agg (sv ⟨a, b, c, d⟩)) W :=
  run_build W 29 _ _ (by kernel_rfl)
theorem bd_elem0 (W : World) : (Instr.build 27 ([] : List (Nat × Value)).toArray).run Tryd.prog W = .ok (.agg (ev 0)) W := by kernel_rfl
/-- A zero Point. -/
def PZ : L4 PP := ⟨0, 0, 0, 0⟩
theorem PZ_rep : RepS Pt.nil PZ := RepS.zero rfl
theorem al_key (W : World) : (Instr.alloc 23 true (.tuple #[])).run Tryd.prog W = .ok (.pointer (some ⟨W.heap.size, 0, none⟩)) (W.alloc (.cells #[.int .u8 0, .int .u8 0, .int .u8 0, .int .u8 0, .int .u8 0, .int .u8 0, .int .u8 0, .int .u8 0, .int .u8 0, .int .u8 0, .int .u8 0, .int .u8 0, .int .u8 0, .int .u8 0, .int .u8 0, .int .u8 0, .int .u8 0, .int .u8 0, .int .u8 0, .int .u8 0, .int .u8 0, .int .u8 0, .int .u8 0, .int .u8 0, .int .u8 0, .int .u8 0, .int .u8 0, .int .u8 0, .int .u8 0, .int .u8 0, .int .u8 0, .int .u8 0] 23)) := by kernel_rfl
theorem bx_key (n : Nat) (W : World) : (Instr.box 23 (.agg (ks n))).run Tryd.prog W = .ok (.pointer (some ⟨W.heap.size, 0, none⟩)) (W.alloc (.cells (ks n) 23)) := by kernel_rfl
theorem addP {x y z : Fin PP} (h : z = x + y) (w : World) (hp : PG w) : Calls Tryd.prog 35 #[.agg (ev x), .agg (ev y)] w (EPost z w) := by rw [h]; exact addF x y w hp
theorem subP {x y z : Fin PP} (h : z = x - y) (w : World) (hp : PG w) : Calls Tryd.prog 37 #[.agg (ev x), .agg (ev y)] w (EPost z w) := by rw [h]; exact subF x y w hp
theorem mulP {x y z : Fin PP} (h : z = x * y) (w : World) (hp : PG w) : Calls Tryd.prog 36 #[.agg (ev x), .agg (ev y)] w (EPost z w) := by rw [h]; exact mulF x y w hp
theorem smallP {z : Fin PP} (n : Nat) (h : z = sm n) (hn : n < 18446744073709551616) (w : World) : Calls Tryd.prog 34 #[.int .u64 (n : Int)] w (EPost z w) := by rw [h]; exact smallF n w hn
theorem equalB {x y : Fin PP} {b : Bool} (h : decide (x = y) = b) (w : World) : Calls Tryd.prog 63 #[.agg (ev x), .agg (ev y)] w (BPost b w) := by subst h; exact equalF x y w
theorem ia_key31 (g : Nat) (W : World) : (Instr.indexAt 23 (.pointer (some ⟨g, 0, none⟩)) (.int .i64 31)).run Tryd.prog W = .ok (.pointer (some ⟨g, 31, none⟩)) W := by kernel_rfl
theorem ld_key31 {n x : Nat} (hx : n / 256 ^ 31 % 256 = x) {g : Nat} (W : World) (h : Blk W g 23 (ks n)) : (Instr.loadAt 5 (.pointer (some ⟨g, 31, none⟩))).run Tryd.prog W = .ok (.int .u8 (x : Int)) W := by
  have hc := h.cell 31
  rw [ks_get n (by omega), hx] at hc
  go_simp
theorem st_key31 {n : Nat} {v : Int} {g : Nat} (W : World) (h : Blk W g 23 (ks n)) : (Instr.storeAt 5 (.pointer (some ⟨g, 31, none⟩)) (.int .u8 v)).run Tryd.prog W = .ok () (W.setCells g 31 [.int .u8 v]) := by
  have hc := h.cell 31
  have hf := h.frozen 31
  rw [ks_get n (by omega)] at hc
  have hs : (W.cell? ⟨g, 31, none⟩).isSome = true := by rw [hc]; rfl
  show _ = Result.ok () (W.setCell ⟨g, 31, none⟩ (.int .u8 v))
  go_simp
theorem sv_key31 {n m : Nat} {x : Nat} (hx : x < 256) (hm : putd 256 n 31 x = m) : setV (ks n) 31 [.int .u8 (x : Int)] = ks m := by
  show (ks n).setIfInBounds 31 (.int .u8 (x : Int)) = ks m
  rw [ks_put (by omega) hx, hm]
theorem or128 {x : Nat} (hx : x < 128) : bits .or .u8 (x : Int) 128 = ((x + 128 : Nat) : Int) := by
  have h : ∀ x : Fin 128, bits .or .u8 ((x.val : Nat) : Int) 128 = ((x.val + 128 : Nat) : Int) := by decide +kernel
  exact h ⟨x, hx⟩
theorem b_or128 {x y : Nat} (hx : x < 128) (h : x + 128 = y) (p q : Operand) (W : World) : (do eqGuard .or 5 p q (.int .u8 (x : Int)) (.int .u8 128); binOp .or 5 (.int .u8 (x : Int)) (.int .u8 128) : Sem Value).run Tryd.prog W = .ok (.int .u8 (y : Int)) W := by
  have := or128 hx
  rw [h] at this
  go_simp
def fx (d : Fin PP) (s : L4 PP) : Array Value := ev d ++ sv s
theorem fx_size (d : Fin PP) (s : L4 PP) : (fx d s).size = 20 := by unfold fx; rw [Array.size_append, ev_size, sv_size]
end Go.Proofs.YtcijaoihcckofaaDoor
namespace Go.Proofs.YtcijaoihcckofaaDoor
set_option linter.unusedVariables false
set_option linter.unusedSimpArgs false
set_option maxRecDepth 100000
open Go Go.RowKit
theorem td_ofK : TD = ofK 37095705934669439343138083508754565189542113879843219016388785533085940283555 := by decide +kernel
theorem bx_ofK : BX = ofK 15112221349535400772501151409588531511454012693041857206046113283949847762202 := by decide +kernel
theorem by_ofK : BY = ofK 46316835694926478169428394003475163141307993866256225615783033603165251855960 := by decide +kernel
theorem bd_keyD (W : World) : (Instr.build 23 [(0, .int .u8 163), (1, .int .u8 120), (2, .int .u8 89), (3, .int .u8 19), (4, .int .u8 202), (5, .int .u8 77), (6, .int .u8 235), (7, .int .u8 117), (8, .int .u8 171), (9, .int .u8 216), (10, .int .u8 65), (11, .int .u8 65), (12, .int .u8 77), (13, .int .u8 10), (14, .int .u8 112), (15, .int .u8 0), (16, .int .u8 152), (17, .int .u8 232), (18, .int .u8 121), (19, .int .u8 119), (20, .int .u8 121), (21, .int .u8 64), (22, .int .u8 199), (23, .int .u8 140), (24, .int .u8 115), (25, .int .u8 254), (26, .int .u8 111), (27, .int .u8 43), (28, .int .u8 238), (29, .int .u8 108), (30, .int .u8 3), (31, .int .u8 82)].toArray).run Tryd.prog W = .ok (.agg (ks 37095705934669439343138083508754565189542113879843219016388785533085940283555)) W := by kernel_rfl
theorem bd_keyX (W : World) : (Instr.build 23 [(0, .int .u8 26), (1, .int .u8 213), (2, .int .u8 37), (3, .int .u8 143), (4, .int .u8 96), (5, .int .u8 45), (6, .int .u8 86), (7, .int .u8 201), (8, .int .u8 178), (9, .int .u8 167), (10, .int .u8 37), (11, .int .u8 149), (12, .int .u8 96), (13, .int .u8 199), (14, .int .u8 44), (15, .int .u8 105), (16, .int .u8 92), (17, .int .u8 220), (18, .int .u8 214), (19, .int .u8 253), (20, .int .u8 49), (21, .int .u8 226), (22, .int .u8 164), (23, .int .u8 192), (24, .int .u8 254), (25, .int .u8 83), (26, .int .u8 110), (27, .int .u8 205), (28, .int .u8 211), (29, .int .u8 54), (30, .int .u8 105), (31, .int .u8 33)].toArray).run Tryd.prog W = .ok (.agg (ks 15112221349535400772501151409588531511454012693041857206046113283949847762202)) W := by kernel_rfl
theorem bd_keyY (W : World) : (Instr.build 23 [(0, .int .u8 88), (1, .int .u8 102), (2, .int .u8 102), (3, .int .u8 102), (4, .int .u8 102), (5, .int .u8 102), (6, .int .u8 102), (7, .int .u8 102), (8, .int .u8 102), (9, .int .u8 102), (10, .int .u8 102), (11, .int .u8 102), (12, .int .u8 102), (13, .int .u8 102), (14, .int .u8 102), (15, .int .u8 102), (16, .int .u8 102), (17, .int .u8 102), (18, .int .u8 102), (19, .int .u8 102), (20, .int .u8 102), (21, .int .u8 102), (22, .int .u8 102), (23, .int .u8 102), (24, .int .u8 102), (25, .int .u8 102), (26, .int .u8 102), (27, .int .u8 102), (28, .int .u8 102), (29, .int .u8 102), (30, .int .u8 102), (31, .int .u8 102)].toArray).run Tryd.prog W = .ok (.agg (ks 46316835694926478169428394003475163141307993866256225615783033603165251855960)) W := by kernel_rfl
attribute [local irreducible] ev sv ks ptSet ptAdd ptMul rootC EE II TD BX BY lad
set_option maxHeartbeats 4000000 in
theorem pointOf_any {x y : Fin PP} {r : L4 PP} (h : r = ptE x y) (w : World) (hpg : PG w) : Calls Tryd.prog 45 #[.agg (ev x), .agg (ev y)] w (fun rr w' => rr = .returned (.agg (sv r)) ∧ Below w.heap.size w w') := by
  obtain ⟨z1, hz1⟩ : ∃ z : Fin PP, z = sm 1 := ⟨_, rfl⟩
  obtain ⟨z2, hz2⟩ : ∃ z : Fin PP, z = x * y := ⟨_, rfl⟩
  refine calls_st (vs := [.agg (ev x), .agg (ev y)]) 12 Tryd.func45 rfl Tryd.ntmps45 rfl (fun a W H => ?_)
  replace H : St 12 w a W [(0, .agg (ev x)), (1, .agg (ev y))] [] := H
  refine wp_seq_k (fun K1 hK1 => ?_)
  refine rg_plain ?_
  refine pl_box rfl rfl (bx_elem x) rfl rfl rfl rfl H ?_
  clear H a W
  intro g1 a W H
  refine pl_box rfl rfl (bx_elem y) rfl rfl rfl rfl H ?_
  clear H a W
  intro g2 a W H
  refine pl_new (news_of rfl al_pt) rfl rfl rfl rfl H ?_
  clear H a W
  intro g3 a W H
  refine pl_end ?_
  replace H : St 12 w a W [(4, .pointer (some ⟨g3, 0, none⟩)), (3, .pointer (some ⟨g2, 0, none⟩)), (2, .pointer (some ⟨g1, 0, none⟩))] [(g3, 29, #[.int .u64 0, .int .u64 0, .int .u64 0, .int .u64 0, .int .u64 0, .int .u64 0, .int .u64 0, .int .u64 0, .int .u64 0, .int .u64 0, .int .u64 0, .int .u64 0, .int .u64 0, .int .u64 0, .int .u64 0, .int .u64 0]), (g2, 27, ev y), (g1, 27, ev x)] := H.pick [0, 1, 2] [0, 1, 2] rfl
  refine hK1 _ _ ?_
  clear hK1
  refine wp_seq_k (fun K2 hK2 => ?_)
  refine drawnS [.val 5 (.agg (ev x)) [] [2], .val 6 (.agg (ev y)) [] [1], .val 7 (.agg (ev z1)) [] [], .val 8 (.agg (ev x)) [] [2], .val 9 (.agg (ev y)) [] [1], .val 10 (.agg (ev z2)) [3, 4] [], .val 11 (.agg (sv ⟨x, y, z1, z2⟩)) [0, 1, 2, 5] [], .sto 0 g3 29 (#[.int .u64 0, .int .u64 0, .int .u64 0, .int .u64 0, .int .u64 0, .int .u64 0, .int .u64 0, .int .u64 0, .int .u64 0, .int .u64 0, .int .u64 0, .int .u64 0, .int .u64 0, .int .u64 0, .int .u64 0, .int .u64 0]) (sv ⟨x, y, z1, z2⟩) [6]] [0, 0, 0, 0, 0, 28, 39, 127] (by kernel_rfl) (by kernel_rfl) (by kernel_rfl) H ⟨⟨does_load rfl rfl (k := 0) rfl Tryd.underlying27 rfl (info_ev _), wanted_none rfl⟩, ⟨does_load rfl rfl (k := 0) rfl Tryd.underlying27 rfl (info_ev _), wanted_none rfl⟩, ⟨does_call rfl ⟨_, Tryd.func34, by kernel_rfl⟩ rfl (fun W hb => smallP 1 hz1 (by omega) W), wanted_none rfl⟩, ⟨does_load rfl rfl (k := 0) rfl Tryd.underlying27 rfl (info_ev _), wanted_none rfl⟩, ⟨does_load rfl rfl (k := 0) rfl Tryd.underlying27 rfl (info_ev _), wanted_none rfl⟩, ⟨does_call rfl ⟨_, Tryd.func36, by kernel_rfl⟩ rfl (fun W hb => mulP hz2 W (hpg.ext hb)), wanted_none rfl⟩, ⟨does_build rfl rfl (bd_pt x y z1 z2), wanted_none rfl⟩, ⟨rfl, rfl, sto_row rfl rfl rfl (info_pt _) (by simp only [sv_size, ev_size, ks_size, fx_size] <;> rfl) (sv_one _)⟩, trivial⟩ ?_
  clear H a W
  intro G4 a W H
  replace H : St 12 w a W [(5, .agg (ev x)), (6, .agg (ev y)), (7, .agg (ev z1)), (8, .agg (ev x)), (9, .agg (ev y)), (10, .agg (ev z2)), (11, .agg (sv ⟨x, y, z1, z2⟩)), (4, .pointer (some ⟨g3, 0, none⟩)), (3, .pointer (some ⟨g2, 0, none⟩)), (2, .pointer (some ⟨g1, 0, none⟩))] [(g3, 29, sv ⟨x, y, z1, z2⟩), (g2, 27, ev y), (g1, 27, ev x)] := H
  replace H : St 12 w a W [(4, .pointer (some ⟨g3, 0, none⟩))] [(g3, 29, sv ⟨x, y, z1, z2⟩)] := H.pick [7] [0] rfl
  refine hK2 _ _ ?_
  clear hK2
  refine wp_ret ?_
  repeat (first | (with_reducible refine then_ret ?_) | (with_reducible refine blk_ret ?_))
  refine end_cell (p := 4) rfl rfl (k := 0) rfl Tryd.underlying29 rfl (info_pt _) H (fun hb => ?_)
  exact ⟨by rw [h]; subst hz1 hz2; rfl, hb⟩
set_option maxHeartbeats 4000000 in
theorem isZero_any {x : Fin PP} {b : Bool} (h : decide (x = 0) = b) (w : World) (hpg : PG w) : Calls Tryd.prog 44 #[.agg (ev x)] w (fun rr w' => rr = .returned (.bool b) ∧ Below w.heap.size w w') := by
  refine calls_st (vs := [.agg (ev x)]) 6 Tryd.func44 rfl Tryd.ntmps44 rfl (fun a W H => ?_)
  replace H : St 6 w a W [(0, .agg (ev x))] [] := H
  refine wp_seq_k (fun K1 hK1 => ?_)
  refine rg_plain ?_
  refine pl_box rfl rfl (bx_elem x) rfl rfl rfl rfl H ?_
  clear H a W
  intro g1 a W H
  refine pl_does (does_assign rfl rfl) rfl rfl rfl rfl H ?_
  clear H a W
  intro a W H
  refine pl_end ?_
  replace H : St 6 w a W [(2, .bool false), (1, .pointer (some ⟨g1, 0, none⟩))] [(g1, 27, ev x)] := H.pick [0, 1] [0] rfl
  refine hK1 _ _ ?_
  clear hK1
  refine wp_seq_k (fun K2 hK2 => ?_)
  refine rg_plain ?_
  refine pl_does (does_load rfl rfl (k := 0) rfl Tryd.underlying27 rfl (info_ev _)) rfl rfl rfl rfl H ?_
  clear H a W
  intro a W H
  refine pl_does (does_build (ps := []) rfl rfl bd_elem0) rfl rfl rfl rfl H ?_
  clear H a W
  intro a W H
  refine pl_does (does_call rfl ⟨_, Tryd.func63, by kernel_rfl⟩ rfl (fun W hb => equalB h W)) rfl rfl rfl rfl H ?_
  clear H a W
  intro a W H
  replace H : St 6 w a W [(5, .bool b), (4, .agg (ev 0)), (3, .agg (ev x)), (1, .pointer (some ⟨g1, 0, none⟩))] [(g1, 27, ev x)] := H.pick [0, 1, 2, 4] [0] rfl
  refine pl_does (does_assign rfl rfl) rfl rfl rfl rfl H ?_
  clear H a W
  intro a W H
  refine pl_end ?_
  replace H : St 6 w a W [(2, .bool b)] [] := H.pick [0] [] rfl
  refine hK2 _ _ ?_
  clear hK2
  refine wp_ret ?_
  repeat (first | (with_reducible refine then_ret ?_) | (with_reducible refine blk_ret ?_))
  refine end_tmp (p := 2) rfl rfl H (fun hb => ?_)
  exact ⟨rfl, hb⟩
set_option maxHeartbeats 4000000 in
theorem settled_zero {s r : L4 PP} (hr : r = ptSet s) (h : s.c = 0) (w : World) (hpg : PG w) : Calls Tryd.prog 59 #[.agg (sv s)] w (fun rr w' => rr = .returned (.agg (sv r)) ∧ Below w.heap.size w w') := by
  obtain ⟨z1, hz1⟩ : ∃ z : Fin PP, z = sm 0 := ⟨_, rfl⟩
  obtain ⟨z2, hz2⟩ : ∃ z : Fin PP, z = sm 1 := ⟨_, rfl⟩
  obtain ⟨z3, hz3⟩ : ∃ z : L4 PP, z = ptE z1 z2 := ⟨_, rfl⟩
  refine calls_st (vs := [.agg (sv s)]) 10 Tryd.func59 rfl Tryd.ntmps59 rfl (fun a W H => ?_)
  replace H : St 10 w a W [(0, .agg (sv s))] [] := H
  refine wp_seq_k (fun K1 hK1 => ?_)
  refine rg_plain ?_
  refine pl_box rfl rfl (bx_pt s) rfl rfl rfl rfl H ?_
  clear H a W
  intro g1 a W H
  refine pl_new (news_of rfl al_pt) rfl rfl rfl rfl H ?_
  clear H a W
  intro g2 a W H
  refine pl_end ?_
  replace H : St 10 w a W [(2, .pointer (some ⟨g2, 0, none⟩)), (1, .pointer (some ⟨g1, 0, none⟩))] [(g2, 29, #[.int .u64 0, .int .u64 0, .int .u64 0, .int .u64 0, .int .u64 0, .int .u64 0, .int .u64 0, .int .u64 0, .int .u64 0, .int .u64 0, .int .u64 0, .int .u64 0, .int .u64 0, .int .u64 0, .int .u64 0, .int .u64 0]), (g1, 29, sv s)] := H.pick [0, 1] [0, 1] rfl
  refine hK1 _ _ ?_
  clear hK1
  refine wp_seq_k (fun K2 hK2 => ?_)
  refine wp_seq_k (fun K3 hK3 => ?_)
  refine rg_plain ?_
  refine pl_does (does_fieldAddr rfl rfl (fa_pt _ · |>.2.2.1)) rfl rfl rfl rfl H ?_
  clear H a W
  intro a W H
  refine pl_does (does_loadAt (v := .agg (ev s.c)) rfl rfl (k := 1) rfl (ld_pt (k := 2) (by omega))) rfl rfl rfl rfl H ?_
  clear H a W
  intro a W H
  refine pl_does (does_call rfl ⟨_, Tryd.func44, by kernel_rfl⟩ rfl (fun W hb => isZero_any (decide_eq_true h) W (hpg.ext hb))) rfl rfl rfl rfl H ?_
  clear H a W
  intro a W H
  refine pl_end ?_
  replace H : St 10 w a W [(5, .bool true), (2, .pointer (some ⟨g2, 0, none⟩)), (1, .pointer (some ⟨g1, 0, none⟩))] [(g2, 29, #[.int .u64 0, .int .u64 0, .int .u64 0, .int .u64 0, .int .u64 0, .int .u64 0, .int .u64 0, .int .u64 0, .int .u64 0, .int .u64 0, .int .u64 0, .int .u64 0, .int .u64 0, .int .u64 0, .int .u64 0, .int .u64 0]), (g1, 29, sv s)] := H.pick [0, 3, 4] [0, 1] rfl
  refine hK3 _ _ ?_
  clear hK3
  refine wp_cond_true (H.ev rfl) ?_
  refine wp_seq_k (fun K4 hK4 => ?_)
  refine rg_plain ?_
  refine pl_does (does_call rfl ⟨_, Tryd.func34, by kernel_rfl⟩ rfl (fun W hb => smallP 0 hz1 (by omega) W)) rfl rfl rfl rfl H ?_
  clear H a W
  intro a W H
  refine pl_does (does_call rfl ⟨_, Tryd.func34, by kernel_rfl⟩ rfl (fun W hb => smallP 1 hz2 (by omega) W)) rfl rfl rfl rfl H ?_
  clear H a W
  intro a W H
  refine pl_does (does_call rfl ⟨_, Tryd.func45, by kernel_rfl⟩ rfl (fun W hb => pointOf_any hz3 W (hpg.ext hb))) rfl rfl rfl rfl H ?_
  clear H a W
  intro a W H
  refine pl_store rfl rfl rfl (k := 0) rfl (info_pt _) (by simp only [sv_size, ev_size, ks_size, fx_size] <;> rfl) (sv_one _) rfl rfl H ?_
  clear H a W
  intro a W H
  refine pl_end ?_
  replace H : St 10 w a W [(2, .pointer (some ⟨g2, 0, none⟩)), (1, .pointer (some ⟨g1, 0, none⟩))] [(g2, 29, sv z3), (g1, 29, sv s)] := H.pick [4, 5] [0, 1] rfl
  refine hK4 _ _ ?_
  clear hK4
  refine wp_ret ?_
  repeat (first | (with_reducible refine then_ret ?_) | (with_reducible refine blk_ret ?_))
  refine end_cell (p := 2) rfl rfl (k := 0) rfl Tryd.underlying29 rfl (info_pt _) H (fun hb => ?_)
  exact ⟨by rw [hr, ptSet_zero h]; subst hz1 hz2 hz3; rfl, hb⟩
set_option maxHeartbeats 4000000 in
theorem settled_one {s r : L4 PP} (hr : r = ptSet s) (h : ¬ s.c = 0) (w : World) (hpg : PG w) : Calls Tryd.prog 59 #[.agg (sv s)] w (fun rr w' => rr = .returned (.agg (sv r)) ∧ Below w.heap.size w w') := by
  refine calls_st (vs := [.agg (sv s)]) 10 Tryd.func59 rfl Tryd.ntmps59 rfl (fun a W H => ?_)
  replace H : St 10 w a W [(0, .agg (sv s))] [] := H
  refine wp_seq_k (fun K1 hK1 => ?_)
  refine rg_plain ?_
  refine pl_box rfl rfl (bx_pt s) rfl rfl rfl rfl H ?_
  clear H a W
  intro g1 a W H
  refine pl_new (news_of rfl al_pt) rfl rfl rfl rfl H ?_
  clear H a W
  intro g2 a W H
  refine pl_end ?_
  replace H : St 10 w a W [(2, .pointer (some ⟨g2, 0, none⟩)), (1, .pointer (some ⟨g1, 0, none⟩))] [(g2, 29, #[.int .u64 0, .int .u64 0, .int .u64 0, .int .u64 0, .int .u64 0, .int .u64 0, .int .u64 0, .int .u64 0, .int .u64 0, .int .u64 0, .int .u64 0, .int .u64 0, .int .u64 0, .int .u64 0, .int .u64 0, .int .u64 0]), (g1, 29, sv s)] := H.pick [0, 1] [0, 1] rfl
  refine hK1 _ _ ?_
  clear hK1
  refine wp_seq_k (fun K2 hK2 => ?_)
  refine wp_seq_k (fun K3 hK3 => ?_)
  refine rg_plain ?_
  refine pl_does (does_fieldAddr rfl rfl (fa_pt _ · |>.2.2.1)) rfl rfl rfl rfl H ?_
  clear H a W
  intro a W H
  refine pl_does (does_loadAt (v := .agg (ev s.c)) rfl rfl (k := 1) rfl (ld_pt (k := 2) (by omega))) rfl rfl rfl rfl H ?_
  clear H a W
  intro a W H
  refine pl_does (does_call rfl ⟨_, Tryd.func44, by kernel_rfl⟩ rfl (fun W hb => isZero_any (decide_eq_false h) W (hpg.ext hb))) rfl rfl rfl rfl H ?_
  clear H a W
  intro a W H
  refine pl_end ?_
  replace H : St 10 w a W [(5, .bool false), (2, .pointer (some ⟨g2, 0, none⟩)), (1, .pointer (some ⟨g1, 0, none⟩))] [(g2, 29, #[.int .u64 0, .int .u64 0, .int .u64 0, .int .u64 0, .int .u64 0, .int .u64 0, .int .u64 0, .int .u64 0, .int .u64 0, .int .u64 0, .int .u64 0, .int .u64 0, .int .u64 0, .int .u64 0, .int .u64 0, .int .u64 0]), (g1, 29, sv s)] := H.pick [0, 3, 4] [0, 1] rfl
  refine hK3 _ _ ?_
  clear hK3
  refine wp_cond_false (H.ev rfl) ?_
  refine wp_skip ?_
  refine hK2 _ _ ?_
  clear hK2
  refine wp_seq_k (fun K4 hK4 => ?_)
  refine rg_plain ?_
  refine pl_does (does_load rfl rfl (k := 1) rfl Tryd.underlying29 rfl (info_pt _)) rfl rfl rfl rfl H ?_
  clear H a W
  intro a W H
  refine pl_store rfl rfl rfl (k := 0) rfl (info_pt _) (by simp only [sv_size, ev_size, ks_size, fx_size] <;> rfl) (sv_one _) rfl rfl H ?_
  clear H a W
  intro a W H
  refine pl_end ?_
  replace H : St 10 w a W [(2, .pointer (some ⟨g2, 0, none⟩))] [(g2, 29, sv s)] := H.pick [2] [0] rfl
  refine hK4 _ _ ?_
  clear hK4
  refine wp_ret ?_
  repeat (first | (with_reducible refine then_ret ?_) | (with_reducible refine blk_ret ?_))
  refine end_cell (p := 2) rfl rfl (k := 0) rfl Tryd.underlying29 rfl (info_pt _) H (fun hb => ?_)
  exact ⟨by rw [hr, ptSet_id h], hb⟩
theorem settled_any {s r : L4 PP} (hr : r = ptSet s) (w : World) (hpg : PG w) : Calls Tryd.prog 59 #[.agg (sv s)] w (fun rr w' => rr = .returned (.agg (sv r)) ∧ Below w.heap.size w w') := by
  by_cases h : s.c = 0
  · exact settled_zero hr h w hpg
  · exact settled_one hr h w hpg
set_option maxHeartbeats 4000000 in
theorem twice_any {x z : Fin PP} (h : z = x + x) (w : World) (hpg : PG w) : Calls Tryd.prog 60 #[.agg (ev x)] w (fun rr w' => rr = .returned (.agg (ev z)) ∧ Below w.heap.size w w') := by
  obtain ⟨z1, hz1⟩ : ∃ z : Fin PP, z = x + x := ⟨_, rfl⟩
  refine calls_st (vs := [.agg (ev x)]) 6 Tryd.func60 rfl Tryd.ntmps60 rfl (fun a W H => ?_)
  replace H : St 6 w a W [(0, .agg (ev x))] [] := H
  refine wp_seq_k (fun K1 hK1 => ?_)
  refine rg_plain ?_
  refine pl_box rfl rfl (bx_elem x) rfl rfl rfl rfl H ?_
  clear H a W
  intro g1 a W H
  refine pl_new (news_of rfl al_elem) rfl rfl rfl rfl H ?_
  clear H a W
  intro g2 a W H
  refine pl_end ?_
  replace H : St 6 w a W [(2, .pointer (some ⟨g2, 0, none⟩)), (1, .pointer (some ⟨g1, 0, none⟩))] [(g2, 27, #[.int .u64 0, .int .u64 0, .int .u64 0, .int .u64 0]), (g1, 27, ev x)] := H.pick [0, 1] [0, 1] rfl
  refine hK1 _ _ ?_
  clear hK1
  refine wp_seq_k (fun K2 hK2 => ?_)
  refine rg_plain ?_
  refine pl_does (does_load rfl rfl (k := 1) rfl Tryd.underlying27 rfl (info_ev _)) rfl rfl rfl rfl H ?_
  clear H a W
  intro a W H
  refine pl_does (does_load rfl rfl (k := 1) rfl Tryd.underlying27 rfl (info_ev _)) rfl rfl rfl rfl H ?_
  clear H a W
  intro a W H
  refine pl_does (does_call rfl ⟨_, Tryd.func35, by kernel_rfl⟩ rfl (fun W hb => addP hz1 W (hpg.ext hb))) rfl rfl rfl rfl H ?_
  clear H a W
  intro a W H
  refine pl_store rfl rfl rfl (k := 0) rfl (info_ev _) (by simp only [sv_size, ev_size, ks_size, fx_size] <;> rfl) (ev_one _) rfl rfl H ?_
  clear H a W
  intro a W H
  refine pl_end ?_
  replace H : St 6 w a W [(2, .pointer (some ⟨g2, 0, none⟩))] [(g2, 27, ev z1)] := H.pick [3] [0] rfl
  refine hK2 _ _ ?_
  clear hK2
  refine wp_ret ?_
  repeat (first | (with_reducible refine then_ret ?_) | (with_reducible refine blk_ret ?_))
  refine end_cell (p := 2) rfl rfl (k := 0) rfl Tryd.underlying27 rfl (info_ev _) H (fun hb => ?_)
  exact ⟨by rw [h]; subst hz1; rfl, hb⟩
set_option maxHeartbeats 4000000 in
theorem numbers_any {P : Pt} {s : L4 PP} (h : RepS P s) (w : World) (hpg : PG w) : Calls Tryd.prog 57 #[.agg (sv s)] w (fun rr w' => rr = .returned (.tuple #[.agg (ev P.x), .agg (ev P.y)]) ∧ Below w.heap.size w w') := by
  obtain ⟨z1, hz1⟩ : ∃ z : L4 PP, z = ptSet s := ⟨_, rfl⟩
  obtain ⟨z2, hz2⟩ : ∃ z : Fin PP, z = z1.c ^ (PP - 2) := ⟨_, rfl⟩
  obtain ⟨z3, hz3⟩ : ∃ z : Fin PP, z = z1.a * z2 := ⟨_, rfl⟩
  obtain ⟨z4, hz4⟩ : ∃ z : Fin PP, z = z1.b * z2 := ⟨_, rfl⟩
  refine calls_st (vs := [.agg (sv s)]) 18 Tryd.func57 rfl Tryd.ntmps57 rfl (fun a W H => ?_)
  replace H : St 18 w a W [(0, .agg (sv s))] [] := H
  refine wp_seq_k (fun K1 hK1 => ?_)
  refine rg_plain ?_
  refine pl_box rfl rfl (bx_pt s) rfl rfl rfl rfl H ?_
  clear H a W
  intro g1 a W H
  refine pl_new (news_of rfl al_elem) rfl rfl rfl rfl H ?_
  clear H a W
  intro g2 a W H
  refine pl_new (news_of rfl al_elem) rfl rfl rfl rfl H ?_
  clear H a W
  intro g3 a W H
  refine pl_end ?_
  replace H : St 18 w a W [(3, .pointer (some ⟨g3, 0, none⟩)), (2, .pointer (some ⟨g2, 0, none⟩)), (1, .pointer (some ⟨g1, 0, none⟩))] [(g3, 27, #[.int .u64 0, .int .u64 0, .int .u64 0, .int .u64 0]), (g2, 27, #[.int .u64 0, .int .u64 0, .int .u64 0, .int .u64 0]), (g1, 29, sv s)] := H.pick [0, 1, 2] [0, 1, 2] rfl
  refine hK1 _ _ ?_
  clear hK1
  refine wp_seq_k (fun K2 hK2 => ?_)
  refine rg_plain ?_
  refine pl_does (does_load rfl rfl (k := 2) rfl Tryd.underlying29 rfl (info_pt _)) rfl rfl rfl rfl H ?_
  clear H a W
  intro a W H
  refine pl_does (does_call rfl ⟨_, Tryd.func59, by kernel_rfl⟩ rfl (fun W hb => settled_any hz1 W (hpg.ext hb))) rfl rfl rfl rfl H ?_
  clear H a W
  intro a W H
  refine pl_store rfl rfl rfl (k := 2) rfl (info_pt _) (by simp only [sv_size, ev_size, ks_size, fx_size] <;> rfl) (sv_one _) rfl rfl H ?_
  clear H a W
  intro a W H
  refine pl_end ?_
  replace H : St 18 w a W [(3, .pointer (some ⟨g3, 0, none⟩)), (2, .pointer (some ⟨g2, 0, none⟩)), (1, .pointer (some ⟨g1, 0, none⟩))] [(g3, 27, #[.int .u64 0, .int .u64 0, .int .u64 0, .int .u64 0]), (g2, 27, #[.int .u64 0, .int .u64 0, .int .u64 0, .int .u64 0]), (g1, 29, sv z1)] := H.pick [2, 3, 4] [0, 1, 2] rfl
  refine hK2 _ _ ?_
  clear hK2
  refine wp_seq_k (fun K3 hK3 => ?_)
  refine rg_plain ?_
  refine pl_does (does_fieldAddr rfl rfl (fa_pt _ · |>.2.2.1)) rfl rfl rfl rfl H ?_
  clear H a W
  intro a W H
  refine pl_does (does_loadAt (v := .agg (ev z1.c)) rfl rfl (k := 2) rfl (ld_pt (k := 2) (by omega))) rfl rfl rfl rfl H ?_
  clear H a W
  intro a W H
  refine pl_does (does_call rfl ⟨_, Tryd.func38, by kernel_rfl⟩ rfl (fun W hb => invR hz2 W (hpg.ext hb))) rfl rfl rfl rfl H ?_
  clear H a W
  intro a W H
  refine pl_new (news_of rfl al_elem) rfl rfl rfl rfl H ?_
  clear H a W
  intro g4 a W H
  refine pl_store rfl rfl rfl (k := 0) rfl (info_ev _) (by simp only [sv_size, ev_size, ks_size, fx_size] <;> rfl) (ev_one _) rfl rfl H ?_
  clear H a W
  intro a W H
  refine pl_end ?_
  replace H : St 18 w a W [(4, .pointer (some ⟨g4, 0, none⟩)), (3, .pointer (some ⟨g3, 0, none⟩)), (2, .pointer (some ⟨g2, 0, none⟩)), (1, .pointer (some ⟨g1, 0, none⟩))] [(g4, 27, ev z2), (g3, 27, #[.int .u64 0, .int .u64 0, .int .u64 0, .int .u64 0]), (g2, 27, #[.int .u64 0, .int .u64 0, .int .u64 0, .int .u64 0]), (g1, 29, sv z1)] := H.pick [0, 4, 5, 6] [0, 1, 2, 3] rfl
  refine hK3 _ _ ?_
  clear hK3
  refine wp_seq_k (fun K4 hK4 => ?_)
  refine drawnS [.val 10 (.pointer (some ⟨g1, 4 * 0, none⟩)) [] [], .val 11 (.agg (ev z1.a)) [0] [3], .val 12 (.agg (ev z2)) [] [0], .val 13 (.agg (ev z3)) [1, 2] [], .val 14 (.pointer (some ⟨g1, 4 * 1, none⟩)) [] [], .val 15 (.agg (ev z1.b)) [4] [3], .val 16 (.agg (ev z2)) [] [0], .val 17 (.agg (ev z4)) [5, 6] [], .sto 2 g2 27 (#[.int .u64 0, .int .u64 0, .int .u64 0, .int .u64 0]) (ev z3) [3], .sto 1 g3 27 (#[.int .u64 0, .int .u64 0, .int .u64 0, .int .u64 0]) (ev z4) [7]] [0, 1, 0, 6, 0, 16, 0, 104, 143, 511] (by kernel_rfl) (by kernel_rfl) (by kernel_rfl) H ⟨⟨does_fieldAddr rfl rfl (fa_pt _ · |>.1), wanted_none rfl⟩, ⟨does_loadAt (v := .agg (ev z1.a)) rfl rfl (k := 0) rfl (ld_pt (k := 0) (by omega)), wanted_none rfl⟩, ⟨does_load rfl rfl (k := 0) rfl Tryd.underlying27 rfl (info_ev _), wanted_none rfl⟩, ⟨does_call rfl ⟨_, Tryd.func36, by kernel_rfl⟩ rfl (fun W hb => mulP hz3 W (hpg.ext hb)), wanted_none rfl⟩, ⟨does_fieldAddr rfl rfl (fa_pt _ · |>.2.1), wanted_none rfl⟩, ⟨does_loadAt (v := .agg (ev z1.b)) rfl rfl (k := 0) rfl (ld_pt (k := 1) (by omega)), wanted_none rfl⟩, ⟨does_load rfl rfl (k := 0) rfl Tryd.underlying27 rfl (info_ev _), wanted_none rfl⟩, ⟨does_call rfl ⟨_, Tryd.func36, by kernel_rfl⟩ rfl (fun W hb => mulP hz4 W (hpg.ext hb)), wanted_none rfl⟩, ⟨rfl, rfl, sto_row rfl rfl rfl (info_ev _) (by simp only [sv_size, ev_size, ks_size, fx_size] <;> rfl) (ev_one _)⟩, ⟨rfl, rfl, sto_row rfl rfl rfl (info_ev _) (by simp only [sv_size, ev_size, ks_size, fx_size] <;> rfl) (ev_one _)⟩, trivial⟩ ?_
  clear H a W
  intro G5 a W H
  replace H : St 18 w a W [(10, .pointer (some ⟨g1, 4 * 0, none⟩)), (11, .agg (ev z1.a)), (12, .agg (ev z2)), (13, .agg (ev z3)), (14, .pointer (some ⟨g1, 4 * 1, none⟩)), (15, .agg (ev z1.b)), (16, .agg (ev z2)), (17, .agg (ev z4)), (4, .pointer (some ⟨g4, 0, none⟩)), (3, .pointer (some ⟨g3, 0, none⟩)), (2, .pointer (some ⟨g2, 0, none⟩)), (1, .pointer (some ⟨g1, 0, none⟩))] [(g4, 27, ev z2), (g3, 27, ev z4), (g2, 27, ev z3), (g1, 29, sv z1)] := H
  replace H : St 18 w a W [(3, .pointer (some ⟨g3, 0, none⟩)), (2, .pointer (some ⟨g2, 0, none⟩))] [(g3, 27, ev z4), (g2, 27, ev z3)] := H.pick [9, 10] [1, 2] rfl
  refine hK4 _ _ ?_
  clear hK4
  refine wp_ret ?_
  repeat (first | (with_reducible refine then_ret ?_) | (with_reducible refine blk_ret ?_))
  refine end_cells (p := 2) (q := 3) rfl rfl (k := 1) rfl Tryd.underlying27 rfl (info_ev _) rfl (k2 := 0) rfl Tryd.underlying27 rfl (info_ev _) H (fun hb => ?_)
  refine ⟨?_, hb⟩
  obtain ⟨e1, e2⟩ := h.flat
  rw [← hz1, ← hz2] at e1 e2
  rw [hz3, hz4, e1, e2]
set_option maxHeartbeats 4000000 in
theorem ptY_any {P : Pt} {s : L4 PP} (h : RepS P s) (w : World) (hpg : PG w) : Calls Tryd.prog 18 #[.agg (sv s)] w (fun rr w' => rr = .returned (.agg (ks P.y.val)) ∧ Below w.heap.size w w') := by
  refine calls_st (vs := [.agg (sv s)]) 12 Tryd.func18 rfl Tryd.ntmps18 rfl (fun a W H => ?_)
  replace H : St 12 w a W [(0, .agg (sv s))] [] := H
  refine wp_seq_k (fun K1 hK1 => ?_)
  refine rg_plain ?_
  refine pl_box rfl rfl (bx_pt s) rfl rfl rfl rfl H ?_
  clear H a W
  intro g1 a W H
  refine pl_new (news_of rfl al_key) rfl rfl rfl rfl H ?_
  clear H a W
  intro g2 a W H
  refine pl_end ?_
  replace H : St 12 w a W [(2, .pointer (some ⟨g2, 0, none⟩)), (1, .pointer (some ⟨g1, 0, none⟩))] [(g2, 23, #[.int .u8 0, .int .u8 0, .int .u8 0, .int .u8 0, .int .u8 0, .int .u8 0, .int .u8 0, .int .u8 0, .int .u8 0, .int .u8 0, .int .u8 0, .int .u8 0, .int .u8 0, .int .u8 0, .int .u8 0, .int .u8 0, .int .u8 0, .int .u8 0, .int .u8 0, .int .u8 0, .int .u8 0, .int .u8 0, .int .u8 0, .int .u8 0, .int .u8 0, .int .u8 0, .int .u8 0, .int .u8 0, .int .u8 0, .int .u8 0, .int .u8 0, .int .u8 0]), (g1, 29, sv s)] := H.pick [0, 1] [0, 1] rfl
  refine hK1 _ _ ?_
  clear hK1
  refine wp_seq_k (fun K2 hK2 => ?_)
  refine rg_plain ?_
  refine pl_does (does_load rfl rfl (k := 1) rfl Tryd.underlying29 rfl (info_pt _)) rfl rfl rfl rfl H ?_
  clear H a W
  intro a W H
  refine pl_does (does_call rfl ⟨_, Tryd.func57, by kernel_rfl⟩ rfl (fun W hb => numbers_any h W (hpg.ext hb))) rfl rfl rfl rfl H ?_
  clear H a W
  intro a W H
  refine pl_does (does_move rfl rfl) rfl rfl rfl rfl H ?_
  clear H a W
  intro a W H
  refine pl_does (does_extract rfl rfl (fun _ => rfl)) rfl rfl rfl rfl H ?_
  clear H a W
  intro a W H
  refine pl_does (does_extract rfl rfl (fun _ => rfl)) rfl rfl rfl rfl H ?_
  clear H a W
  intro a W H
  refine pl_new (news_of rfl al_elem) rfl rfl rfl rfl H ?_
  clear H a W
  intro g3 a W H
  refine pl_new (news_of rfl al_elem) rfl rfl rfl rfl H ?_
  clear H a W
  intro g4 a W H
  refine pl_store rfl rfl rfl (k := 1) rfl (info_ev _) (by simp only [sv_size, ev_size, ks_size, fx_size] <;> rfl) (ev_one _) rfl rfl H ?_
  clear H a W
  intro a W H
  refine pl_store rfl rfl rfl (k := 0) rfl (info_ev _) (by simp only [sv_size, ev_size, ks_size, fx_size] <;> rfl) (ev_one _) rfl rfl H ?_
  clear H a W
  intro a W H
  refine pl_end ?_
  replace H : St 12 w a W [(4, .pointer (some ⟨g4, 0, none⟩)), (2, .pointer (some ⟨g2, 0, none⟩))] [(g4, 27, ev P.y), (g2, 23, #[.int .u8 0, .int .u8 0, .int .u8 0, .int .u8 0, .int .u8 0, .int .u8 0, .int .u8 0, .int .u8 0, .int .u8 0, .int .u8 0, .int .u8 0, .int .u8 0, .int .u8 0, .int .u8 0, .int .u8 0, .int .u8 0, .int .u8 0, .int .u8 0, .int .u8 0, .int .u8 0, .int .u8 0, .int .u8 0, .int .u8 0, .int .u8 0, .int .u8 0, .int .u8 0, .int .u8 0, .int .u8 0, .int .u8 0, .int .u8 0, .int .u8 0, .int .u8 0])] := H.pick [0, 7] [0, 2] rfl
  refine hK2 _ _ ?_
  clear hK2
  refine wp_seq_k (fun K3 hK3 => ?_)
  refine rg_plain ?_
  refine pl_does (does_load rfl rfl (k := 0) rfl Tryd.underlying27 rfl (info_ev _)) rfl rfl rfl rfl H ?_
  clear H a W
  intro a W H
  refine pl_does (does_call rfl ⟨_, Tryd.func39, by kernel_rfl⟩ rfl (fun W hb => bytesF P.y W)) rfl rfl rfl rfl H ?_
  clear H a W
  intro a W H
  refine pl_store rfl rfl rfl (k := 1) rfl (info_ks _) (by simp only [sv_size, ev_size, ks_size, fx_size] <;> rfl) (ks_one _) rfl rfl H ?_
  clear H a W
  intro a W H
  refine pl_end ?_
  replace H : St 12 w a W [(2, .pointer (some ⟨g2, 0, none⟩))] [(g2, 23, ks (P.y.val))] := H.pick [3] [1] rfl
  refine hK3 _ _ ?_
  clear hK3
  refine wp_ret ?_
  repeat (first | (with_reducible refine then_ret ?_) | (with_reducible refine blk_ret ?_))
  refine end_cell (p := 2) rfl rfl (k := 0) rfl Tryd.underlying23 rfl (info_ks _) H (fun hb => ?_)
  exact ⟨rfl, hb⟩
set_option maxHeartbeats 4000000 in
theorem bytes_odd {P : Pt} {s : L4 PP} (h : RepS P s) {m : Nat} (hm : m = pbn P) (ho : P.x.val % 2 = 1) (w : World) (hpg : PG w) : Calls Tryd.prog 13 #[.agg (sv s)] w (fun rr w' => rr = .returned (.agg (ks m)) ∧ Below w.heap.size w w') := by
  obtain ⟨x, hx⟩ : ∃ x : Nat, P.y.val / 256 ^ 31 % 256 = x := ⟨_, rfl⟩
  have hx1 : x < 128 := by have := PP_lt255 P.y; omega
  obtain ⟨y, hy⟩ : ∃ y, x + 128 = y := ⟨_, rfl⟩
  have hy1 : y < 256 := by omega
  have hput : putd 256 P.y.val 31 y = m := by
    have := putd_eq 256 P.y.val 31 y
    have hb := PP_lt255 P.y
    rw [hm]
    unfold pbn
    rw [ho]
    rw [hx] at this
    omega
  refine calls_st (vs := [.agg (sv s)]) 20 Tryd.func13 rfl Tryd.ntmps13 rfl (fun a W H => ?_)
  replace H : St 20 w a W [(0, .agg (sv s))] [] := H
  refine wp_seq_k (fun K1 hK1 => ?_)
  refine rg_plain ?_
  refine pl_box rfl rfl (bx_pt s) rfl rfl rfl rfl H ?_
  clear H a W
  intro g1 a W H
  refine pl_new (news_of rfl al_key) rfl rfl rfl rfl H ?_
  clear H a W
  intro g2 a W H
  refine pl_end ?_
  replace H : St 20 w a W [(2, .pointer (some ⟨g2, 0, none⟩)), (1, .pointer (some ⟨g1, 0, none⟩))] [(g2, 23, #[.int .u8 0, .int .u8 0, .int .u8 0, .int .u8 0, .int .u8 0, .int .u8 0, .int .u8 0, .int .u8 0, .int .u8 0, .int .u8 0, .int .u8 0, .int .u8 0, .int .u8 0, .int .u8 0, .int .u8 0, .int .u8 0, .int .u8 0, .int .u8 0, .int .u8 0, .int .u8 0, .int .u8 0, .int .u8 0, .int .u8 0, .int .u8 0, .int .u8 0, .int .u8 0, .int .u8 0, .int .u8 0, .int .u8 0, .int .u8 0, .int .u8 0, .int .u8 0]), (g1, 29, sv s)] := H.pick [0, 1] [0, 1] rfl
  refine hK1 _ _ ?_
  clear hK1
  refine wp_seq_k (fun K2 hK2 => ?_)
  refine rg_plain ?_
  refine pl_does (does_load rfl rfl (k := 1) rfl Tryd.underlying29 rfl (info_pt _)) rfl rfl rfl rfl H ?_
  clear H a W
  intro a W H
  refine pl_does (does_call rfl ⟨_, Tryd.func57, by kernel_rfl⟩ rfl (fun W hb => numbers_any h W (hpg.ext hb))) rfl rfl rfl rfl H ?_
  clear H a W
  intro a W H
  refine pl_does (does_move rfl rfl) rfl rfl rfl rfl H ?_
  clear H a W
  intro a W H
  refine pl_does (does_extract rfl rfl (fun _ => rfl)) rfl rfl rfl rfl H ?_
  clear H a W
  intro a W H
  refine pl_does (does_extract rfl rfl (fun _ => rfl)) rfl rfl rfl rfl H ?_
  clear H a W
  intro a W H
  refine pl_new (news_of rfl al_elem) rfl rfl rfl rfl H ?_
  clear H a W
  intro g3 a W H
  refine pl_new (news_of rfl al_elem) rfl rfl rfl rfl H ?_
  clear H a W
  intro g4 a W H
  refine pl_store rfl rfl rfl (k := 1) rfl (info_ev _) (by simp only [sv_size, ev_size, ks_size, fx_size] <;> rfl) (ev_one _) rfl rfl H ?_
  clear H a W
  intro a W H
  refine pl_store rfl rfl rfl (k := 0) rfl (info_ev _) (by simp only [sv_size, ev_size, ks_size, fx_size] <;> rfl) (ev_one _) rfl rfl H ?_
  clear H a W
  intro a W H
  refine pl_end ?_
  replace H : St 20 w a W [(4, .pointer (some ⟨g4, 0, none⟩)), (3, .pointer (some ⟨g3, 0, none⟩)), (2, .pointer (some ⟨g2, 0, none⟩))] [(g4, 27, ev P.y), (g3, 27, ev P.x), (g2, 23, #[.int .u8 0, .int .u8 0, .int .u8 0, .int .u8 0, .int .u8 0, .int .u8 0, .int .u8 0, .int .u8 0, .int .u8 0, .int .u8 0, .int .u8 0, .int .u8 0, .int .u8 0, .int .u8 0, .int .u8 0, .int .u8 0, .int .u8 0, .int .u8 0, .int .u8 0, .int .u8 0, .int .u8 0, .int .u8 0, .int .u8 0, .int .u8 0, .int .u8 0, .int .u8 0, .int .u8 0, .int .u8 0, .int .u8 0, .int .u8 0, .int .u8 0, .int .u8 0])] := H.pick [0, 1, 7] [0, 1, 2] rfl
  refine hK2 _ _ ?_
  clear hK2
  refine wp_seq_k (fun K3 hK3 => ?_)
  refine rg_plain ?_
  refine pl_does (does_load rfl rfl (k := 0) rfl Tryd.underlying27 rfl (info_ev _)) rfl rfl rfl rfl H ?_
  clear H a W
  intro a W H
  refine pl_does (does_call rfl ⟨_, Tryd.func39, by kernel_rfl⟩ rfl (fun W hb => bytesF P.y W)) rfl rfl rfl rfl H ?_
  clear H a W
  intro a W H
  refine pl_new (news_of rfl al_key) rfl rfl rfl rfl H ?_
  clear H a W
  intro g5 a W H
  refine pl_store rfl rfl rfl (k := 0) rfl (info_ks _) (by simp only [sv_size, ev_size, ks_size, fx_size] <;> rfl) (ks_one _) rfl rfl H ?_
  clear H a W
  intro a W H
  refine pl_end ?_
  replace H : St 20 w a W [(5, .pointer (some ⟨g5, 0, none⟩)), (3, .pointer (some ⟨g3, 0, none⟩)), (2, .pointer (some ⟨g2, 0, none⟩))] [(g5, 23, ks (P.y.val)), (g3, 27, ev P.x), (g2, 23, #[.int .u8 0, .int .u8 0, .int .u8 0, .int .u8 0, .int .u8 0, .int .u8 0, .int .u8 0, .int .u8 0, .int .u8 0, .int .u8 0, .int .u8 0, .int .u8 0, .int .u8 0, .int .u8 0, .int .u8 0, .int .u8 0, .int .u8 0, .int .u8 0, .int .u8 0, .int .u8 0, .int .u8 0, .int .u8 0, .int .u8 0, .int .u8 0, .int .u8 0, .int .u8 0, .int .u8 0, .int .u8 0, .int .u8 0, .int .u8 0, .int .u8 0, .int .u8 0])] := H.pick [0, 4, 5] [0, 2, 3] rfl
  refine hK3 _ _ ?_
  clear hK3
  refine wp_seq_k (fun K4 hK4 => ?_)
  refine wp_seq_k (fun K5 hK5 => ?_)
  refine rg_plain ?_
  refine pl_does (does_load rfl rfl (k := 1) rfl Tryd.underlying27 rfl (info_ev _)) rfl rfl rfl rfl H ?_
  clear H a W
  intro a W H
  refine pl_does (does_call rfl ⟨_, Tryd.func58, by kernel_rfl⟩ rfl (fun W hb => odd_yes ho W)) rfl rfl rfl rfl H ?_
  clear H a W
  intro a W H
  refine pl_end ?_
  replace H : St 20 w a W [(14, .bool true), (5, .pointer (some ⟨g5, 0, none⟩)), (2, .pointer (some ⟨g2, 0, none⟩))] [(g5, 23, ks (P.y.val)), (g2, 23, #[.int .u8 0, .int .u8 0, .int .u8 0, .int .u8 0, .int .u8 0, .int .u8 0, .int .u8 0, .int .u8 0, .int .u8 0, .int .u8 0, .int .u8 0, .int .u8 0, .int .u8 0, .int .u8 0, .int .u8 0, .int .u8 0, .int .u8 0, .int .u8 0, .int .u8 0, .int .u8 0, .int .u8 0, .int .u8 0, .int .u8 0, .int .u8 0, .int .u8 0, .int .u8 0, .int .u8 0, .int .u8 0, .int .u8 0, .int .u8 0, .int .u8 0, .int .u8 0])] := H.pick [0, 2, 4] [0, 2] rfl
  refine hK5 _ _ ?_
  clear hK5
  refine wp_cond_true (H.ev rfl) ?_
  refine rg_plain ?_
  refine pl_does (does_indexAddr rfl rfl rfl (ia_key31 _)) rfl rfl rfl rfl H ?_
  clear H a W
  intro a W H
  refine pl_does (does_loadAt (v := .int .u8 ((x : Nat) : Int)) rfl rfl (k := 0) rfl (ld_key31 hx)) rfl rfl rfl rfl H ?_
  clear H a W
  intro a W H
  refine pl_does (does_binOp rfl rfl rfl (b_or128 hx1 hy _ _)) rfl rfl rfl rfl H ?_
  clear H a W
  intro a W H
  refine pl_does (does_indexAddr rfl rfl rfl (ia_key31 _)) rfl rfl rfl rfl H ?_
  clear H a W
  intro a W H
  refine pl_storeAt rfl rfl rfl (k := 0) rfl st_key31 (sv_key31 hy1 hput) rfl rfl H ?_
  clear H a W
  intro a W H
  refine pl_end ?_
  replace H : St 20 w a W [(5, .pointer (some ⟨g5, 0, none⟩)), (2, .pointer (some ⟨g2, 0, none⟩))] [(g5, 23, ks m), (g2, 23, #[.int .u8 0, .int .u8 0, .int .u8 0, .int .u8 0, .int .u8 0, .int .u8 0, .int .u8 0, .int .u8 0, .int .u8 0, .int .u8 0, .int .u8 0, .int .u8 0, .int .u8 0, .int .u8 0, .int .u8 0, .int .u8 0, .int .u8 0, .int .u8 0, .int .u8 0, .int .u8 0, .int .u8 0, .int .u8 0, .int .u8 0, .int .u8 0, .int .u8 0, .int .u8 0, .int .u8 0, .int .u8 0, .int .u8 0, .int .u8 0, .int .u8 0, .int .u8 0])] := H.pick [5, 6] [0, 1] rfl
  refine hK4 _ _ ?_
  clear hK4
  refine wp_seq_k (fun K6 hK6 => ?_)
  refine rg_plain ?_
  refine pl_does (does_load rfl rfl (k := 0) rfl Tryd.underlying23 rfl (info_ks _)) rfl rfl rfl rfl H ?_
  clear H a W
  intro a W H
  refine pl_store rfl rfl rfl (k := 1) rfl (info_ks _) (by simp only [sv_size, ev_size, ks_size, fx_size] <;> rfl) (ks_one _) rfl rfl H ?_
  clear H a W
  intro a W H
  refine pl_end ?_
  replace H : St 20 w a W [(2, .pointer (some ⟨g2, 0, none⟩))] [(g2, 23, ks m)] := H.pick [2] [1] rfl
  refine hK6 _ _ ?_
  clear hK6
  refine wp_ret ?_
  repeat (first | (with_reducible refine then_ret ?_) | (with_reducible refine blk_ret ?_))
  refine end_cell (p := 2) rfl rfl (k := 0) rfl Tryd.underlying23 rfl (info_ks _) H (fun hb => ?_)
  exact ⟨rfl, hb⟩
set_option maxHeartbeats 4000000 in
theorem bytes_even {P : Pt} {s : L4 PP} (h : RepS P s) {m : Nat} (hm : m = pbn P) (ho : ¬ P.x.val % 2 = 1) (w : World) (hpg : PG w) : Calls Tryd.prog 13 #[.agg (sv s)] w (fun rr w' => rr = .returned (.agg (ks m)) ∧ Below w.heap.size w w') := by
  refine calls_st (vs := [.agg (sv s)]) 20 Tryd.func13 rfl Tryd.ntmps13 rfl (fun a W H => ?_)
  replace H : St 20 w a W [(0, .agg (sv s))] [] := H
  refine wp_seq_k (fun K1 hK1 => ?_)
  refine rg_plain ?_
  refine pl_box rfl rfl (bx_pt s) rfl rfl rfl rfl H ?_
  clear H a W
  intro g1 a W H
  refine pl_new (news_of rfl al_key) rfl rfl rfl rfl H ?_
  clear H a W
  intro g2 a W H
  refine pl_end ?_
  replace H : St 20 w a W [(2, .pointer (some ⟨g2, 0, none⟩)), (1, .pointer (some ⟨g1, 0, none⟩))] [(g2, 23, #[.int .u8 0, .int .u8 0, .int .u8 0, .int .u8 0, .int .u8 0, .int .u8 0, .int .u8 0, .int .u8 0, .int .u8 0, .int .u8 0, .int .u8 0, .int .u8 0, .int .u8 0, .int .u8 0, .int .u8 0, .int .u8 0, .int .u8 0, .int .u8 0, .int .u8 0, .int .u8 0, .int .u8 0, .int .u8 0, .int .u8 0, .int .u8 0, .int .u8 0, .int .u8 0, .int .u8 0, .int .u8 0, .int .u8 0, .int .u8 0, .int .u8 0, .int .u8 0]), (g1, 29, sv s)] := H.pick [0, 1] [0, 1] rfl
  refine hK1 _ _ ?_
  clear hK1
  refine wp_seq_k (fun K2 hK2 => ?_)
  refine rg_plain ?_
  refine pl_does (does_load rfl rfl (k := 1) rfl Tryd.underlying29 rfl (info_pt _)) rfl rfl rfl rfl H ?_
  clear H a W
  intro a W H
  refine pl_does (does_call rfl ⟨_, Tryd.func57, by kernel_rfl⟩ rfl (fun W hb => numbers_any h W (hpg.ext hb))) rfl rfl rfl rfl H ?_
  clear H a W
  intro a W H
  refine pl_does (does_move rfl rfl) rfl rfl rfl rfl H ?_
  clear H a W
  intro a W H
  refine pl_does (does_extract rfl rfl (fun _ => rfl)) rfl rfl rfl rfl H ?_
  clear H a W
  intro a W H
  refine pl_does (does_extract rfl rfl (fun _ => rfl)) rfl rfl rfl rfl H ?_
  clear H a W
  intro a W H
  refine pl_new (news_of rfl al_elem) rfl rfl rfl rfl H ?_
  clear H a W
  intro g3 a W H
  refine pl_new (news_of rfl al_elem) rfl rfl rfl rfl H ?_
  clear H a W
  intro g4 a W H
  refine pl_store rfl rfl rfl (k := 1) rfl (info_ev _) (by simp only [sv_size, ev_size, ks_size, fx_size] <;> rfl) (ev_one _) rfl rfl H ?_
  clear H a W
  intro a W H
  refine pl_store rfl rfl rfl (k := 0) rfl (info_ev _) (by simp only [sv_size, ev_size, ks_size, fx_size] <;> rfl) (ev_one _) rfl rfl H ?_
  clear H a W
  intro a W H
  refine pl_end ?_
  replace H : St 20 w a W [(4, .pointer (some ⟨g4, 0, none⟩)), (3, .pointer (some ⟨g3, 0, none⟩)), (2, .pointer (some ⟨g2, 0, none⟩))] [(g4, 27, ev P.y), (g3, 27, ev P.x), (g2, 23, #[.int .u8 0, .int .u8 0, .int .u8 0, .int .u8 0, .int .u8 0, .int .u8 0, .int .u8 0, .int .u8 0, .int .u8 0, .int .u8 0, .int .u8 0, .int .u8 0, .int .u8 0, .int .u8 0, .int .u8 0, .int .u8 0, .int .u8 0, .int .u8 0, .int .u8 0, .int .u8 0, .int .u8 0, .int .u8 0, .int .u8 0, .int .u8 0, .int .u8 0, .int .u8 0, .int .u8 0, .int .u8 0, .int .u8 0, .int .u8 0, .int .u8 0, .int .u8 0])] := H.pick [0, 1, 7] [0, 1, 2] rfl
  refine hK2 _ _ ?_
  clear hK2
  refine wp_seq_k (fun K3 hK3 => ?_)
  refine rg_plain ?_
  refine pl_does (does_load rfl rfl (k := 0) rfl Tryd.underlying27 rfl (info_ev _)) rfl rfl rfl rfl H ?_
  clear H a W
  intro a W H
  refine pl_does (does_call rfl ⟨_, Tryd.func39, by kernel_rfl⟩ rfl (fun W hb => bytesF P.y W)) rfl rfl rfl rfl H ?_
  clear H a W
  intro a W H
  refine pl_new (news_of rfl al_key) rfl rfl rfl rfl H ?_
  clear H a W
  intro g5 a W H
  refine pl_store rfl rfl rfl (k := 0) rfl (info_ks _) (by simp only [sv_size, ev_size, ks_size, fx_size] <;> rfl) (ks_one _) rfl rfl H ?_
  clear H a W
  intro a W H
  refine pl_end ?_
  replace H : St 20 w a W [(5, .pointer (some ⟨g5, 0, none⟩)), (3, .pointer (some ⟨g3, 0, none⟩)), (2, .pointer (some ⟨g2, 0, none⟩))] [(g5, 23, ks (P.y.val)), (g3, 27, ev P.x), (g2, 23, #[.int .u8 0, .int .u8 0, .int .u8 0, .int .u8 0, .int .u8 0, .int .u8 0, .int .u8 0, .int .u8 0, .int .u8 0, .int .u8 0, .int .u8 0, .int .u8 0, .int .u8 0, .int .u8 0, .int .u8 0, .int .u8 0, .int .u8 0, .int .u8 0, .int .u8 0, .int .u8 0, .int .u8 0, .int .u8 0, .int .u8 0, .int .u8 0, .int .u8 0, .int .u8 0, .int .u8 0, .int .u8 0, .int .u8 0, .int .u8 0, .int .u8 0, .int .u8 0])] := H.pick [0, 4, 5] [0, 2, 3] rfl
  refine hK3 _ _ ?_
  clear hK3
  refine wp_seq_k (fun K4 hK4 => ?_)
  refine wp_seq_k (fun K5 hK5 => ?_)
  refine rg_plain ?_
  refine pl_does (does_load rfl rfl (k := 1) rfl Tryd.underlying27 rfl (info_ev _)) rfl rfl rfl rfl H ?_
  clear H a W
  intro a W H
  refine pl_does (does_call rfl ⟨_, Tryd.func58, by kernel_rfl⟩ rfl (fun W hb => odd_no ho W)) rfl rfl rfl rfl H ?_
  clear H a W
  intro a W H
  refine pl_end ?_
  replace H : St 20 w a W [(14, .bool false), (5, .pointer (some ⟨g5, 0, none⟩)), (2, .pointer (some ⟨g2, 0, none⟩))] [(g5, 23, ks (P.y.val)), (g2, 23, #[.int .u8 0, .int .u8 0, .int .u8 0, .int .u8 0, .int .u8 0, .int .u8 0, .int .u8 0, .int .u8 0, .int .u8 0, .int .u8 0, .int .u8 0, .int .u8 0, .int .u8 0, .int .u8 0, .int .u8 0, .int .u8 0, .int .u8 0, .int .u8 0, .int .u8 0, .int .u8 0, .int .u8 0, .int .u8 0, .int .u8 0, .int .u8 0, .int .u8 0, .int .u8 0, .int .u8 0, .int .u8 0, .int .u8 0, .int .u8 0, .int .u8 0, .int .u8 0])] := H.pick [0, 2, 4] [0, 2] rfl
  refine hK5 _ _ ?_
  clear hK5
  refine wp_cond_false (H.ev rfl) ?_
  refine wp_skip ?_
  refine hK4 _ _ ?_
  clear hK4
  refine wp_seq_k (fun K6 hK6 => ?_)
  refine rg_plain ?_
  refine pl_does (does_load rfl rfl (k := 0) rfl Tryd.underlying23 rfl (info_ks _)) rfl rfl rfl rfl H ?_
  clear H a W
  intro a W H
  refine pl_store rfl rfl rfl (k := 1) rfl (info_ks _) (by simp only [sv_size, ev_size, ks_size, fx_size] <;> rfl) (ks_one _) rfl rfl H ?_
  clear H a W
  intro a W H
  refine pl_end ?_
  replace H : St 20 w a W [(2, .pointer (some ⟨g2, 0, none⟩))] [(g2, 23, ks (P.y.val))] := H.pick [3] [1] rfl
  refine hK6 _ _ ?_
  clear hK6
  refine wp_ret ?_
  repeat (first | (with_reducible refine then_ret ?_) | (with_reducible refine blk_ret ?_))
  refine end_cell (p := 2) rfl rfl (k := 0) rfl Tryd.underlying23 rfl (info_ks _) H (fun hb => ?_)
  refine ⟨?_, hb⟩
  have e : m = P.y.val := by
    rw [hm]
    unfold pbn
    have : P.x.val % 2 = 0 := by omega
    rw [this]
    omega
  rw [e]
theorem bytes_pt {P : Pt} {s : L4 PP} (h : RepS P s) {m : Nat} (hm : m = pbn P) (w : World) (hpg : PG w) : Calls Tryd.prog 13 #[.agg (sv s)] w (fun rr w' => rr = .returned (.agg (ks m)) ∧ Below w.heap.size w w') := by
  by_cases ho : P.x.val % 2 = 1
  · exact bytes_odd h hm ho w hpg
  · exact bytes_even h hm ho w hpg
set_option maxHeartbeats 4000000 in
theorem writtenD_any  (w : World) (hpg : PG w) : Calls Tryd.prog 43 #[] w (fun rr w' => rr = .returned (.agg (ev TD)) ∧ Below w.heap.size w w') := by
  refine calls_st (vs := []) 3 Tryd.func43 rfl Tryd.ntmps43 rfl (fun a W H => ?_)
  replace H : St 3 w a W [] [] := H
  refine wp_seq_k (fun K1 hK1 => ?_)
  refine rg_plain ?_
  refine pl_new (news_of rfl al_elem) rfl rfl rfl rfl H ?_
  clear H a W
  intro g1 a W H
  refine pl_end ?_
  refine hK1 _ _ ?_
  clear hK1
  refine wp_seq_k (fun K2 hK2 => ?_)
  refine rg_plain ?_
  refine pl_does (does_build rfl rfl (bd_keyD)) rfl rfl rfl rfl H ?_
  clear H a W
  intro a W H
  refine pl_does (does_call rfl ⟨_, Tryd.func32, by kernel_rfl⟩ rfl (fun W hb => ofR td_ofK W (hpg.ext hb) (by decide))) rfl rfl rfl rfl H ?_
  clear H a W
  intro a W H
  refine pl_store rfl rfl rfl (k := 0) rfl (info_ev _) (by simp only [sv_size, ev_size, ks_size, fx_size] <;> rfl) (ev_one _) rfl rfl H ?_
  clear H a W
  intro a W H
  refine pl_end ?_
  replace H : St 3 w a W [(0, .pointer (some ⟨g1, 0, none⟩))] [(g1, 27, ev TD)] := H.pick [2] [0] rfl
  refine hK2 _ _ ?_
  clear hK2
  refine wp_ret ?_
  repeat (first | (with_reducible refine then_ret ?_) | (with_reducible refine blk_ret ?_))
  refine end_cell (p := 0) rfl rfl (k := 0) rfl Tryd.underlying27 rfl (info_ev _) H (fun hb => ?_)
  exact ⟨rfl, hb⟩
set_option maxHeartbeats 4000000 in
theorem writtenBase_any  (w : World) (hpg : PG w) : Calls Tryd.prog 65 #[] w (fun rr w' => rr = .returned (.agg (sv BE)) ∧ Below w.heap.size w w') := by
  refine calls_st (vs := []) 10 Tryd.func65 rfl Tryd.ntmps65 rfl (fun a W H => ?_)
  replace H : St 10 w a W [] [] := H
  refine wp_seq_k (fun K1 hK1 => ?_)
  refine rg_plain ?_
  refine pl_new (news_of rfl al_pt) rfl rfl rfl rfl H ?_
  clear H a W
  intro g1 a W H
  refine pl_end ?_
  refine hK1 _ _ ?_
  clear hK1
  refine wp_seq_k (fun K2 hK2 => ?_)
  refine rg_plain ?_
  refine pl_does (does_build rfl rfl (bd_keyX)) rfl rfl rfl rfl H ?_
  clear H a W
  intro a W H
  refine pl_new (news_of rfl al_key) rfl rfl rfl rfl H ?_
  clear H a W
  intro g2 a W H
  refine pl_store rfl rfl rfl (k := 0) rfl (info_ks _) (by simp only [sv_size, ev_size, ks_size, fx_size] <;> rfl) (ks_one _) rfl rfl H ?_
  clear H a W
  intro a W H
  refine pl_end ?_
  replace H : St 10 w a W [(1, .pointer (some ⟨g2, 0, none⟩)), (0, .pointer (some ⟨g1, 0, none⟩))] [(g2, 23, ks 15112221349535400772501151409588531511454012693041857206046113283949847762202), (g1, 29, #[.int .u64 0, .int .u64 0, .int .u64 0, .int .u64 0, .int .u64 0, .int .u64 0, .int .u64 0, .int .u64 0, .int .u64 0, .int .u64 0, .int .u64 0, .int .u64 0, .int .u64 0, .int .u64 0, .int .u64 0, .int .u64 0])] := H.pick [0, 2] [0, 1] rfl
  refine hK2 _ _ ?_
  clear hK2
  refine wp_seq_k (fun K3 hK3 => ?_)
  refine rg_plain ?_
  refine pl_does (does_build rfl rfl (bd_keyY)) rfl rfl rfl rfl H ?_
  clear H a W
  intro a W H
  refine pl_new (news_of rfl al_key) rfl rfl rfl rfl H ?_
  clear H a W
  intro g3 a W H
  refine pl_store rfl rfl rfl (k := 0) rfl (info_ks _) (by simp only [sv_size, ev_size, ks_size, fx_size] <;> rfl) (ks_one _) rfl rfl H ?_
  clear H a W
  intro a W H
  refine pl_end ?_
  replace H : St 10 w a W [(2, .pointer (some ⟨g3, 0, none⟩)), (1, .pointer (some ⟨g2, 0, none⟩)), (0, .pointer (some ⟨g1, 0, none⟩))] [(g3, 23, ks 46316835694926478169428394003475163141307993866256225615783033603165251855960), (g2, 23, ks 15112221349535400772501151409588531511454012693041857206046113283949847762202), (g1, 29, #[.int .u64 0, .int .u64 0, .int .u64 0, .int .u64 0, .int .u64 0, .int .u64 0, .int .u64 0, .int .u64 0, .int .u64 0, .int .u64 0, .int .u64 0, .int .u64 0, .int .u64 0, .int .u64 0, .int .u64 0, .int .u64 0])] := H.pick [0, 2, 3] [0, 1, 2] rfl
  refine hK3 _ _ ?_
  clear hK3
  refine wp_seq_k (fun K4 hK4 => ?_)
  refine drawnS [.val 5 (.agg (ks 15112221349535400772501151409588531511454012693041857206046113283949847762202)) [] [1], .val 6 (.agg (ev BX)) [0] [], .val 7 (.agg (ks 46316835694926478169428394003475163141307993866256225615783033603165251855960)) [] [0], .val 8 (.agg (ev BY)) [2] [], .val 9 (.agg (sv BE)) [1, 3] [], .sto 2 g1 29 (#[.int .u64 0, .int .u64 0, .int .u64 0, .int .u64 0, .int .u64 0, .int .u64 0, .int .u64 0, .int .u64 0, .int .u64 0, .int .u64 0, .int .u64 0, .int .u64 0, .int .u64 0, .int .u64 0, .int .u64 0, .int .u64 0]) (sv BE) [4]] [0, 1, 0, 6, 10, 31] (by kernel_rfl) (by kernel_rfl) (by kernel_rfl) H ⟨⟨does_load rfl rfl (k := 0) rfl Tryd.underlying23 rfl (info_ks _), wanted_none rfl⟩, ⟨does_call rfl ⟨_, Tryd.func32, by kernel_rfl⟩ rfl (fun W hb => ofR bx_ofK W (hpg.ext hb) (by decide)), wanted_none rfl⟩, ⟨does_load rfl rfl (k := 0) rfl Tryd.underlying23 rfl (info_ks _), wanted_none rfl⟩, ⟨does_call rfl ⟨_, Tryd.func32, by kernel_rfl⟩ rfl (fun W hb => ofR by_ofK W (hpg.ext hb) (by decide)), wanted_none rfl⟩, ⟨does_call rfl ⟨_, Tryd.func45, by kernel_rfl⟩ rfl (fun W hb => pointOf_any (show BE = ptE BX BY from rfl) W (hpg.ext hb)), wanted_none rfl⟩, ⟨rfl, rfl, sto_row rfl rfl rfl (info_pt _) (by simp only [sv_size, ev_size, ks_size, fx_size] <;> rfl) (sv_one _)⟩, trivial⟩ ?_
  clear H a W
  intro G4 a W H
  replace H : St 10 w a W [(5, .agg (ks 15112221349535400772501151409588531511454012693041857206046113283949847762202)), (6, .agg (ev BX)), (7, .agg (ks 46316835694926478169428394003475163141307993866256225615783033603165251855960)), (8, .agg (ev BY)), (9, .agg (sv BE)), (2, .pointer (some ⟨g3, 0, none⟩)), (1, .pointer (some ⟨g2, 0, none⟩)), (0, .pointer (some ⟨g1, 0, none⟩))] [(g3, 23, ks 46316835694926478169428394003475163141307993866256225615783033603165251855960), (g2, 23, ks 15112221349535400772501151409588531511454012693041857206046113283949847762202), (g1, 29, sv BE)] := H
  replace H : St 10 w a W [(0, .pointer (some ⟨g1, 0, none⟩))] [(g1, 29, sv BE)] := H.pick [7] [2] rfl
  refine hK4 _ _ ?_
  clear hK4
  refine wp_ret ?_
  repeat (first | (with_reducible refine then_ret ?_) | (with_reducible refine blk_ret ?_))
  refine end_cell (p := 0) rfl rfl (k := 0) rfl Tryd.underlying29 rfl (info_pt _) H (fun hb => ?_)
  exact ⟨rfl, hb⟩
set_option maxHeartbeats 4000000 in
theorem add_pt {s t r : L4 PP} (h : r = ptAdd s t) (w : World) (hpg : PG w) : Calls Tryd.prog 20 #[.agg (sv s), .agg (sv t)] w (fun rr w' => rr = .returned (.agg (sv r)) ∧ Below w.heap.size w w') := by
  obtain ⟨z1, hz1⟩ : ∃ z : L4 PP, z = ptSet s := ⟨_, rfl⟩
  obtain ⟨z2, hz2⟩ : ∃ z : L4 PP, z = ptSet t := ⟨_, rfl⟩
  obtain ⟨z3, hz3⟩ : ∃ z : Fin PP, z = z1.b - z1.a := ⟨_, rfl⟩
  obtain ⟨z4, hz4⟩ : ∃ z : Fin PP, z = z2.b - z2.a := ⟨_, rfl⟩
  obtain ⟨z5, hz5⟩ : ∃ z : Fin PP, z = z3 * z4 := ⟨_, rfl⟩
  obtain ⟨z6, hz6⟩ : ∃ z : Fin PP, z = z1.b + z1.a := ⟨_, rfl⟩
  obtain ⟨z7, hz7⟩ : ∃ z : Fin PP, z = z2.b + z2.a := ⟨_, rfl⟩
  obtain ⟨z8, hz8⟩ : ∃ z : Fin PP, z = z6 * z7 := ⟨_, rfl⟩
  obtain ⟨z9, hz9⟩ : ∃ z : Fin PP, z = z1.c * z2.c := ⟨_, rfl⟩
  obtain ⟨z10, hz10⟩ : ∃ z : Fin PP, z = z1.d * z2.d := ⟨_, rfl⟩
  obtain ⟨z11, hz11⟩ : ∃ z : Fin PP, z = z10 * TD := ⟨_, rfl⟩
  obtain ⟨z12, hz12⟩ : ∃ z : Fin PP, z = z8 - z5 := ⟨_, rfl⟩
  obtain ⟨z13, hz13⟩ : ∃ z : Fin PP, z = z8 + z5 := ⟨_, rfl⟩
  obtain ⟨z14, hz14⟩ : ∃ z : Fin PP, z = z9 + z11 := ⟨_, rfl⟩
  obtain ⟨z15, hz15⟩ : ∃ z : Fin PP, z = z14 + z14 := ⟨_, rfl⟩
  obtain ⟨z16, hz16⟩ : ∃ z : Fin PP, z = z9 - z11 := ⟨_, rfl⟩
  obtain ⟨z17, hz17⟩ : ∃ z : Fin PP, z = z16 + z16 := ⟨_, rfl⟩
  obtain ⟨z18, hz18⟩ : ∃ z : Fin PP, z = z12 * z17 := ⟨_, rfl⟩
  obtain ⟨z19, hz19⟩ : ∃ z : Fin PP, z = z13 * z15 := ⟨_, rfl⟩
  obtain ⟨z20, hz20⟩ : ∃ z : Fin PP, z = z15 * z17 := ⟨_, rfl⟩
  obtain ⟨z21, hz21⟩ : ∃ z : Fin PP, z = z12 * z13 := ⟨_, rfl⟩
  refine calls_st (vs := [.agg (sv s), .agg (sv t)]) 78 Tryd.func20 rfl Tryd.ntmps20 rfl (fun a W H => ?_)
  replace H : St 78 w a W [(0, .agg (sv s)), (1, .agg (sv t))] [] := H
  refine wp_seq_k (fun K1 hK1 => ?_)
  refine rg_plain ?_
  refine pl_box rfl rfl (bx_pt s) rfl rfl rfl rfl H ?_
  clear H a W
  intro g1 a W H
  refine pl_box rfl rfl (bx_pt t) rfl rfl rfl rfl H ?_
  clear H a W
  intro g2 a W H
  refine pl_new (news_of rfl al_pt) rfl rfl rfl rfl H ?_
  clear H a W
  intro g3 a W H
  refine pl_end ?_
  replace H : St 78 w a W [(4, .pointer (some ⟨g3, 0, none⟩)), (3, .pointer (some ⟨g2, 0, none⟩)), (2, .pointer (some ⟨g1, 0, none⟩))] [(g3, 29, #[.int .u64 0, .int .u64 0, .int .u64 0, .int .u64 0, .int .u64 0, .int .u64 0, .int .u64 0, .int .u64 0, .int .u64 0, .int .u64 0, .int .u64 0, .int .u64 0, .int .u64 0, .int .u64 0, .int .u64 0, .int .u64 0]), (g2, 29, sv t), (g1, 29, sv s)] := H.pick [0, 1, 2] [0, 1, 2] rfl
  refine hK1 _ _ ?_
  clear hK1
  refine wp_seq_k (fun K2 hK2 => ?_)
  refine drawnS [.val 13 (.agg (sv s)) [] [2], .val 14 (.agg (sv z1)) [0] [], .val 15 (.agg (sv t)) [] [1], .val 16 (.agg (sv z2)) [2] [], .sto 2 g1 29 (sv s) (sv z1) [1], .sto 1 g2 29 (sv t) (sv z2) [3]] [0, 1, 0, 6, 11, 31] (by kernel_rfl) (by kernel_rfl) (by kernel_rfl) H ⟨⟨does_load rfl rfl (k := 0) rfl Tryd.underlying29 rfl (info_pt _), wanted_none rfl⟩, ⟨does_call rfl ⟨_, Tryd.func59, by kernel_rfl⟩ rfl (fun W hb => settled_any hz1 W (hpg.ext hb)), wanted_none rfl⟩, ⟨does_load rfl rfl (k := 0) rfl Tryd.underlying29 rfl (info_pt _), wanted_none rfl⟩, ⟨does_call rfl ⟨_, Tryd.func59, by kernel_rfl⟩ rfl (fun W hb => settled_any hz2 W (hpg.ext hb)), wanted_none rfl⟩, ⟨rfl, rfl, sto_row rfl rfl rfl (info_pt _) (by simp only [sv_size, ev_size, ks_size, fx_size] <;> rfl) (sv_one _)⟩, ⟨rfl, rfl, sto_row rfl rfl rfl (info_pt _) (by simp only [sv_size, ev_size, ks_size, fx_size] <;> rfl) (sv_one _)⟩, trivial⟩ ?_
  clear H a W
  intro G4 a W H
  replace H : St 78 w a W [(13, .agg (sv s)), (14, .agg (sv z1)), (15, .agg (sv t)), (16, .agg (sv z2)), (4, .pointer (some ⟨g3, 0, none⟩)), (3, .pointer (some ⟨g2, 0, none⟩)), (2, .pointer (some ⟨g1, 0, none⟩))] [(g3, 29, #[.int .u64 0, .int .u64 0, .int .u64 0, .int .u64 0, .int .u64 0, .int .u64 0, .int .u64 0, .int .u64 0, .int .u64 0, .int .u64 0, .int .u64 0, .int .u64 0, .int .u64 0, .int .u64 0, .int .u64 0, .int .u64 0]), (g2, 29, sv z2), (g1, 29, sv z1)] := H
  replace H : St 78 w a W [(4, .pointer (some ⟨g3, 0, none⟩)), (3, .pointer (some ⟨g2, 0, none⟩)), (2, .pointer (some ⟨g1, 0, none⟩))] [(g3, 29, #[.int .u64 0, .int .u64 0, .int .u64 0, .int .u64 0, .int .u64 0, .int .u64 0, .int .u64 0, .int .u64 0, .int .u64 0, .int .u64 0, .int .u64 0, .int .u64 0, .int .u64 0, .int .u64 0, .int .u64 0, .int .u64 0]), (g2, 29, sv z2), (g1, 29, sv z1)] := H.pick [4, 5, 6] [0, 1, 2] rfl
  refine hK2 _ _ ?_
  clear hK2
  refine wp_seq_k (fun K3 hK3 => ?_)
  refine drawnS [.val 17 (.pointer (some ⟨g1, 4 * 1, none⟩)) [] [], .val 18 (.agg (ev z1.b)) [0] [2], .val 19 (.pointer (some ⟨g1, 4 * 0, none⟩)) [] [], .val 20 (.agg (ev z1.a)) [2] [2], .val 21 (.agg (ev z3)) [1, 3] [], .val 22 (.pointer (some ⟨g2, 4 * 1, none⟩)) [] [], .val 23 (.agg (ev z2.b)) [5] [1], .val 24 (.pointer (some ⟨g2, 4 * 0, none⟩)) [] [], .val 25 (.agg (ev z2.a)) [7] [1], .val 26 (.agg (ev z4)) [6, 8] [], .val 27 (.agg (ev z5)) [4, 9] [], .new 5 27 (#[.int .u64 0, .int .u64 0, .int .u64 0, .int .u64 0]), .ston 11 5 27 (#[.int .u64 0, .int .u64 0, .int .u64 0, .int .u64 0]) (ev z5) [10]] [0, 1, 0, 4, 10, 0, 32, 0, 128, 336, 528, 0, 4095] (by kernel_rfl) (by kernel_rfl) (by kernel_rfl) H ⟨⟨does_fieldAddr rfl rfl (fa_pt _ · |>.2.1), wanted_none rfl⟩, ⟨does_loadAt (v := .agg (ev z1.b)) rfl rfl (k := 0) rfl (ld_pt (k := 1) (by omega)), wanted_none rfl⟩, ⟨does_fieldAddr rfl rfl (fa_pt _ · |>.1), wanted_none rfl⟩, ⟨does_loadAt (v := .agg (ev z1.a)) rfl rfl (k := 0) rfl (ld_pt (k := 0) (by omega)), wanted_none rfl⟩, ⟨does_call rfl ⟨_, Tryd.func37, by kernel_rfl⟩ rfl (fun W hb => subP hz3 W (hpg.ext hb)), wanted_none rfl⟩, ⟨does_fieldAddr rfl rfl (fa_pt _ · |>.2.1), wanted_none rfl⟩, ⟨does_loadAt (v := .agg (ev z2.b)) rfl rfl (k := 0) rfl (ld_pt (k := 1) (by omega)), wanted_none rfl⟩, ⟨does_fieldAddr rfl rfl (fa_pt _ · |>.1), wanted_none rfl⟩, ⟨does_loadAt (v := .agg (ev z2.a)) rfl rfl (k := 0) rfl (ld_pt (k := 0) (by omega)), wanted_none rfl⟩, ⟨does_call rfl ⟨_, Tryd.func37, by kernel_rfl⟩ rfl (fun W hb => subP hz4 W (hpg.ext hb)), wanted_none rfl⟩, ⟨does_call rfl ⟨_, Tryd.func36, by kernel_rfl⟩ rfl (fun W hb => mulP hz5 W (hpg.ext hb)), wanted_none rfl⟩, ⟨news_of rfl al_elem, rfl⟩, ⟨rfl, rfl, fun g => sto_row rfl rfl rfl (info_ev _) (by simp only [sv_size, ev_size, ks_size, fx_size] <;> rfl) (ev_one _)⟩, trivial⟩ ?_
  clear H a W
  intro G5 a W H
  replace H : St 78 w a W [(17, .pointer (some ⟨g1, 4 * 1, none⟩)), (18, .agg (ev z1.b)), (19, .pointer (some ⟨g1, 4 * 0, none⟩)), (20, .agg (ev z1.a)), (21, .agg (ev z3)), (22, .pointer (some ⟨g2, 4 * 1, none⟩)), (23, .agg (ev z2.b)), (24, .pointer (some ⟨g2, 4 * 0, none⟩)), (25, .agg (ev z2.a)), (26, .agg (ev z4)), (27, .agg (ev z5)), (5, .pointer (some ⟨(G5 11), 0, none⟩)), (4, .pointer (some ⟨g3, 0, none⟩)), (3, .pointer (some ⟨g2, 0, none⟩)), (2, .pointer (some ⟨g1, 0, none⟩))] [((G5 11), 27, ev z5), (g3, 29, #[.int .u64 0, .int .u64 0, .int .u64 0, .int .u64 0, .int .u64 0, .int .u64 0, .int .u64 0, .int .u64 0, .int .u64 0, .int .u64 0, .int .u64 0, .int .u64 0, .int .u64 0, .int .u64 0, .int .u64 0, .int .u64 0]), (g2, 29, sv z2), (g1, 29, sv z1)] := H
  replace H : St 78 w a W [(5, .pointer (some ⟨(G5 11), 0, none⟩)), (4, .pointer (some ⟨g3, 0, none⟩)), (3, .pointer (some ⟨g2, 0, none⟩)), (2, .pointer (some ⟨g1, 0, none⟩))] [((G5 11), 27, ev z5), (g3, 29, #[.int .u64 0, .int .u64 0, .int .u64 0, .int .u64 0, .int .u64 0, .int .u64 0, .int .u64 0, .int .u64 0, .int .u64 0, .int .u64 0, .int .u64 0, .int .u64 0, .int .u64 0, .int .u64 0, .int .u64 0, .int .u64 0]), (g2, 29, sv z2), (g1, 29, sv z1)] := H.pick [11, 12, 13, 14] [0, 1, 2, 3] rfl
  refine hK3 _ _ ?_
  clear hK3
  refine wp_seq_k (fun K4 hK4 => ?_)
  refine drawnS [.val 28 (.pointer (some ⟨g1, 4 * 1, none⟩)) [] [], .val 29 (.agg (ev z1.b)) [0] [3], .val 30 (.pointer (some ⟨g1, 4 * 0, none⟩)) [] [], .val 31 (.agg (ev z1.a)) [2] [3], .val 32 (.agg (ev z6)) [1, 3] [], .val 33 (.pointer (some ⟨g2, 4 * 1, none⟩)) [] [], .val 34 (.agg (ev z2.b)) [5] [2], .val 35 (.pointer (some ⟨g2, 4 * 0, none⟩)) [] [], .val 36 (.agg (ev z2.a)) [7] [2], .val 37 (.agg (ev z7)) [6, 8] [], .val 38 (.agg (ev z8)) [4, 9] [], .new 6 27 (#[.int .u64 0, .int .u64 0, .int .u64 0, .int .u64 0]), .ston 11 6 27 (#[.int .u64 0, .int .u64 0, .int .u64 0, .int .u64 0]) (ev z8) [10]] [0, 1, 0, 4, 10, 0, 32, 0, 128, 336, 528, 0, 4095] (by kernel_rfl) (by kernel_rfl) (by kernel_rfl) H ⟨⟨does_fieldAddr rfl rfl (fa_pt _ · |>.2.1), wanted_none rfl⟩, ⟨does_loadAt (v := .agg (ev z1.b)) rfl rfl (k := 0) rfl (ld_pt (k := 1) (by omega)), wanted_none rfl⟩, ⟨does_fieldAddr rfl rfl (fa_pt _ · |>.1), wanted_none rfl⟩, ⟨does_loadAt (v := .agg (ev z1.a)) rfl rfl (k := 0) rfl (ld_pt (k := 0) (by omega)), wanted_none rfl⟩, ⟨does_call rfl ⟨_, Tryd.func35, by kernel_rfl⟩ rfl (fun W hb => addP hz6 W (hpg.ext hb)), wanted_none rfl⟩, ⟨does_fieldAddr rfl rfl (fa_pt _ · |>.2.1), wanted_none rfl⟩, ⟨does_loadAt (v := .agg (ev z2.b)) rfl rfl (k := 0) rfl (ld_pt (k := 1) (by omega)), wanted_none rfl⟩, ⟨does_fieldAddr rfl rfl (fa_pt _ · |>.1), wanted_none rfl⟩, ⟨does_loadAt (v := .agg (ev z2.a)) rfl rfl (k := 0) rfl (ld_pt (k := 0) (by omega)), wanted_none rfl⟩, ⟨does_call rfl ⟨_, Tryd.func35, by kernel_rfl⟩ rfl (fun W hb => addP hz7 W (hpg.ext hb)), wanted_none rfl⟩, ⟨does_call rfl ⟨_, Tryd.func36, by kernel_rfl⟩ rfl (fun W hb => mulP hz8 W (hpg.ext hb)), wanted_none rfl⟩, ⟨news_of rfl al_elem, rfl⟩, ⟨rfl, rfl, fun g => sto_row rfl rfl rfl (info_ev _) (by simp only [sv_size, ev_size, ks_size, fx_size] <;> rfl) (ev_one _)⟩, trivial⟩ ?_
  clear H a W
  intro G6 a W H
  replace H : St 78 w a W [(28, .pointer (some ⟨g1, 4 * 1, none⟩)), (29, .agg (ev z1.b)), (30, .pointer (some ⟨g1, 4 * 0, none⟩)), (31, .agg (ev z1.a)), (32, .agg (ev z6)), (33, .pointer (some ⟨g2, 4 * 1, none⟩)), (34, .agg (ev z2.b)), (35, .pointer (some ⟨g2, 4 * 0, none⟩)), (36, .agg (ev z2.a)), (37, .agg (ev z7)), (38, .agg (ev z8)), (6, .pointer (some ⟨(G6 11), 0, none⟩)), (5, .pointer (some ⟨(G5 11), 0, none⟩)), (4, .pointer (some ⟨g3, 0, none⟩)), (3, .pointer (some ⟨g2, 0, none⟩)), (2, .pointer (some ⟨g1, 0, none⟩))] [((G6 11), 27, ev z8), ((G5 11), 27, ev z5), (g3, 29, #[.int .u64 0, .int .u64 0, .int .u64 0, .int .u64 0, .int .u64 0, .int .u64 0, .int .u64 0, .int .u64 0, .int .u64 0, .int .u64 0, .int .u64 0, .int .u64 0, .int .u64 0, .int .u64 0, .int .u64 0, .int .u64 0]), (g2, 29, sv z2), (g1, 29, sv z1)] := H
  replace H : St 78 w a W [(6, .pointer (some ⟨(G6 11), 0, none⟩)), (5, .pointer (some ⟨(G5 11), 0, none⟩)), (4, .pointer (some ⟨g3, 0, none⟩)), (3, .pointer (some ⟨g2, 0, none⟩)), (2, .pointer (some ⟨g1, 0, none⟩))] [((G6 11), 27, ev z8), ((G5 11), 27, ev z5), (g3, 29, #[.int .u64 0, .int .u64 0, .int .u64 0, .int .u64 0, .int .u64 0, .int .u64 0, .int .u64 0, .int .u64 0, .int .u64 0, .int .u64 0, .int .u64 0, .int .u64 0, .int .u64 0, .int .u64 0, .int .u64 0, .int .u64 0]), (g2, 29, sv z2), (g1, 29, sv z1)] := H.pick [11, 12, 13, 14, 15] [0, 1, 2, 3, 4] rfl
  refine hK4 _ _ ?_
  clear hK4
  refine wp_seq_k (fun K5 hK5 => ?_)
  refine rg_plain ?_
  refine pl_does (does_fieldAddr rfl rfl (fa_pt _ · |>.2.2.1)) rfl rfl rfl rfl H ?_
  clear H a W
  intro a W H
  refine pl_does (does_loadAt (v := .agg (ev z1.c)) rfl rfl (k := 4) rfl (ld_pt (k := 2) (by omega))) rfl rfl rfl rfl H ?_
  clear H a W
  intro a W H
  refine pl_does (does_fieldAddr rfl rfl (fa_pt _ · |>.2.2.1)) rfl rfl rfl rfl H ?_
  clear H a W
  intro a W H
  refine pl_does (does_loadAt (v := .agg (ev z2.c)) rfl rfl (k := 3) rfl (ld_pt (k := 2) (by omega))) rfl rfl rfl rfl H ?_
  clear H a W
  intro a W H
  refine pl_does (does_call rfl ⟨_, Tryd.func36, by kernel_rfl⟩ rfl (fun W hb => mulP hz9 W (hpg.ext hb))) rfl rfl rfl rfl H ?_
  clear H a W
  intro a W H
  refine pl_new (news_of rfl al_elem) rfl rfl rfl rfl H ?_
  clear H a W
  intro g7 a W H
  refine pl_store rfl rfl rfl (k := 0) rfl (info_ev _) (by simp only [sv_size, ev_size, ks_size, fx_size] <;> rfl) (ev_one _) rfl rfl H ?_
  clear H a W
  intro a W H
  refine pl_end ?_
  replace H : St 78 w a W [(7, .pointer (some ⟨g7, 0, none⟩)), (6, .pointer (some ⟨(G6 11), 0, none⟩)), (5, .pointer (some ⟨(G5 11), 0, none⟩)), (4, .pointer (some ⟨g3, 0, none⟩)), (3, .pointer (some ⟨g2, 0, none⟩)), (2, .pointer (some ⟨g1, 0, none⟩))] [(g7, 27, ev z9), ((G6 11), 27, ev z8), ((G5 11), 27, ev z5), (g3, 29, #[.int .u64 0, .int .u64 0, .int .u64 0, .int .u64 0, .int .u64 0, .int .u64 0, .int .u64 0, .int .u64 0, .int .u64 0, .int .u64 0, .int .u64 0, .int .u64 0, .int .u64 0, .int .u64 0, .int .u64 0, .int .u64 0]), (g2, 29, sv z2), (g1, 29, sv z1)] := H.pick [0, 6, 7, 8, 9, 10] [0, 1, 2, 3, 4, 5] rfl
  refine hK5 _ _ ?_
  clear hK5
  refine wp_seq_k (fun K6 hK6 => ?_)
  refine rg_plain ?_
  refine pl_does (does_fieldAddr rfl rfl (fa_pt _ · |>.2.2.2)) rfl rfl rfl rfl H ?_
  clear H a W
  intro a W H
  refine pl_does (does_loadAt (v := .agg (ev z1.d)) rfl rfl (k := 5) rfl (ld_pt (k := 3) (by omega))) rfl rfl rfl rfl H ?_
  clear H a W
  intro a W H
  refine pl_does (does_fieldAddr rfl rfl (fa_pt _ · |>.2.2.2)) rfl rfl rfl rfl H ?_
  clear H a W
  intro a W H
  refine pl_does (does_loadAt (v := .agg (ev z2.d)) rfl rfl (k := 4) rfl (ld_pt (k := 3) (by omega))) rfl rfl rfl rfl H ?_
  clear H a W
  intro a W H
  refine pl_does (does_call rfl ⟨_, Tryd.func36, by kernel_rfl⟩ rfl (fun W hb => mulP hz10 W (hpg.ext hb))) rfl rfl rfl rfl H ?_
  clear H a W
  intro a W H
  refine pl_does (does_call rfl ⟨_, Tryd.func43, by kernel_rfl⟩ rfl (fun W hb => writtenD_any W (hpg.ext hb))) rfl rfl rfl rfl H ?_
  clear H a W
  intro a W H
  refine pl_does (does_call rfl ⟨_, Tryd.func36, by kernel_rfl⟩ rfl (fun W hb => mulP hz11 W (hpg.ext hb))) rfl rfl rfl rfl H ?_
  clear H a W
  intro a W H
  refine pl_new (news_of rfl al_elem) rfl rfl rfl rfl H ?_
  clear H a W
  intro g8 a W H
  refine pl_store rfl rfl rfl (k := 0) rfl (info_ev _) (by simp only [sv_size, ev_size, ks_size, fx_size] <;> rfl) (ev_one _) rfl rfl H ?_
  clear H a W
  intro a W H
  refine pl_end ?_
  replace H : St 78 w a W [(8, .pointer (some ⟨g8, 0, none⟩)), (7, .pointer (some ⟨g7, 0, none⟩)), (6, .pointer (some ⟨(G6 11), 0, none⟩)), (5, .pointer (some ⟨(G5 11), 0, none⟩)), (4, .pointer (some ⟨g3, 0, none⟩))] [(g8, 27, ev z11), (g7, 27, ev z9), ((G6 11), 27, ev z8), ((G5 11), 27, ev z5), (g3, 29, #[.int .u64 0, .int .u64 0, .int .u64 0, .int .u64 0, .int .u64 0, .int .u64 0, .int .u64 0, .int .u64 0, .int .u64 0, .int .u64 0, .int .u64 0, .int .u64 0, .int .u64 0, .int .u64 0, .int .u64 0, .int .u64 0])] := H.pick [0, 8, 9, 10, 11] [0, 1, 2, 3, 4] rfl
  refine hK6 _ _ ?_
  clear hK6
  refine wp_seq_k (fun K7 hK7 => ?_)
  refine drawnS [.val 51 (.agg (ev z8)) [] [2], .val 52 (.agg (ev z5)) [] [3], .val 53 (.agg (ev z12)) [0, 1] [], .val 54 (.agg (ev z8)) [] [2], .val 55 (.agg (ev z5)) [] [3], .val 56 (.agg (ev z13)) [3, 4] [], .new 9 27 (#[.int .u64 0, .int .u64 0, .int .u64 0, .int .u64 0]), .new 10 27 (#[.int .u64 0, .int .u64 0, .int .u64 0, .int .u64 0]), .ston 6 9 27 (#[.int .u64 0, .int .u64 0, .int .u64 0, .int .u64 0]) (ev z12) [2], .ston 7 10 27 (#[.int .u64 0, .int .u64 0, .int .u64 0, .int .u64 0]) (ev z13) [5]] [0, 0, 3, 0, 0, 28, 0, 0, 231, 511] (by kernel_rfl) (by kernel_rfl) (by kernel_rfl) H ⟨⟨does_load rfl rfl (k := 0) rfl Tryd.underlying27 rfl (info_ev _), wanted_none rfl⟩, ⟨does_load rfl rfl (k := 0) rfl Tryd.underlying27 rfl (info_ev _), wanted_none rfl⟩, ⟨does_call rfl ⟨_, Tryd.func37, by kernel_rfl⟩ rfl (fun W hb => subP hz12 W (hpg.ext hb)), wanted_none rfl⟩, ⟨does_load rfl rfl (k := 0) rfl Tryd.underlying27 rfl (info_ev _), wanted_none rfl⟩, ⟨does_load rfl rfl (k := 0) rfl Tryd.underlying27 rfl (info_ev _), wanted_none rfl⟩, ⟨does_call rfl ⟨_, Tryd.func35, by kernel_rfl⟩ rfl (fun W hb => addP hz13 W (hpg.ext hb)), wanted_none rfl⟩, ⟨news_of rfl al_elem, rfl⟩, ⟨news_of rfl al_elem, rfl⟩, ⟨rfl, rfl, fun g => sto_row rfl rfl rfl (info_ev _) (by simp only [sv_size, ev_size, ks_size, fx_size] <;> rfl) (ev_one _)⟩, ⟨rfl, rfl, fun g => sto_row rfl rfl rfl (info_ev _) (by simp only [sv_size, ev_size, ks_size, fx_size] <;> rfl) (ev_one _)⟩, trivial⟩ ?_
  clear H a W
  intro G9 a W H
  replace H : St 78 w a W [(51, .agg (ev z8)), (52, .agg (ev z5)), (53, .agg (ev z12)), (54, .agg (ev z8)), (55, .agg (ev z5)), (56, .agg (ev z13)), (9, .pointer (some ⟨(G9 6), 0, none⟩)), (10, .pointer (some ⟨(G9 7), 0, none⟩)), (8, .pointer (some ⟨g8, 0, none⟩)), (7, .pointer (some ⟨g7, 0, none⟩)), (6, .pointer (some ⟨(G6 11), 0, none⟩)), (5, .pointer (some ⟨(G5 11), 0, none⟩)), (4, .pointer (some ⟨g3, 0, none⟩))] [((G9 6), 27, ev z12), ((G9 7), 27, ev z13), (g8, 27, ev z11), (g7, 27, ev z9), ((G6 11), 27, ev z8), ((G5 11), 27, ev z5), (g3, 29, #[.int .u64 0, .int .u64 0, .int .u64 0, .int .u64 0, .int .u64 0, .int .u64 0, .int .u64 0, .int .u64 0, .int .u64 0, .int .u64 0, .int .u64 0, .int .u64 0, .int .u64 0, .int .u64 0, .int .u64 0, .int .u64 0])] := H
  replace H : St 78 w a W [(9, .pointer (some ⟨(G9 6), 0, none⟩)), (10, .pointer (some ⟨(G9 7), 0, none⟩)), (8, .pointer (some ⟨g8, 0, none⟩)), (7, .pointer (some ⟨g7, 0, none⟩)), (4, .pointer (some ⟨g3, 0, none⟩))] [((G9 6), 27, ev z12), ((G9 7), 27, ev z13), (g8, 27, ev z11), (g7, 27, ev z9), (g3, 29, #[.int .u64 0, .int .u64 0, .int .u64 0, .int .u64 0, .int .u64 0, .int .u64 0, .int .u64 0, .int .u64 0, .int .u64 0, .int .u64 0, .int .u64 0, .int .u64 0, .int .u64 0, .int .u64 0, .int .u64 0, .int .u64 0])] := H.pick [6, 7, 8, 9, 12] [0, 1, 2, 3, 6] rfl
  refine hK7 _ _ ?_
  clear hK7
  refine wp_seq_k (fun K8 hK8 => ?_)
  refine drawnS [.val 57 (.agg (ev z9)) [] [3], .val 58 (.agg (ev z11)) [] [2], .val 59 (.agg (ev z14)) [0, 1] [], .val 60 (.agg (ev z15)) [2] [], .val 61 (.agg (ev z9)) [] [3], .val 62 (.agg (ev z11)) [] [2], .val 63 (.agg (ev z16)) [4, 5] [], .val 64 (.agg (ev z17)) [6] [], .new 11 27 (#[.int .u64 0, .int .u64 0, .int .u64 0, .int .u64 0]), .new 12 27 (#[.int .u64 0, .int .u64 0, .int .u64 0, .int .u64 0]), .ston 8 11 27 (#[.int .u64 0, .int .u64 0, .int .u64 0, .int .u64 0]) (ev z15) [3], .ston 9 12 27 (#[.int .u64 0, .int .u64 0, .int .u64 0, .int .u64 0]) (ev z17) [7]] [0, 0, 3, 4, 0, 0, 56, 64, 0, 0, 911, 2047] (by kernel_rfl) (by kernel_rfl) (by kernel_rfl) H ⟨⟨does_load rfl rfl (k := 0) rfl Tryd.underlying27 rfl (info_ev _), wanted_none rfl⟩, ⟨does_load rfl rfl (k := 0) rfl Tryd.underlying27 rfl (info_ev _), wanted_none rfl⟩, ⟨does_call rfl ⟨_, Tryd.func35, by kernel_rfl⟩ rfl (fun W hb => addP hz14 W (hpg.ext hb)), wanted_none rfl⟩, ⟨does_call rfl ⟨_, Tryd.func60, by kernel_rfl⟩ rfl (fun W hb => twice_any hz15 W (hpg.ext hb)), wanted_none rfl⟩, ⟨does_load rfl rfl (k := 0) rfl Tryd.underlying27 rfl (info_ev _), wanted_none rfl⟩, ⟨does_load rfl rfl (k := 0) rfl Tryd.underlying27 rfl (info_ev _), wanted_none rfl⟩, ⟨does_call rfl ⟨_, Tryd.func37, by kernel_rfl⟩ rfl (fun W hb => subP hz16 W (hpg.ext hb)), wanted_none rfl⟩, ⟨does_call rfl ⟨_, Tryd.func60, by kernel_rfl⟩ rfl (fun W hb => twice_any hz17 W (hpg.ext hb)), wanted_none rfl⟩, ⟨news_of rfl al_elem, rfl⟩, ⟨news_of rfl al_elem, rfl⟩, ⟨rfl, rfl, fun g => sto_row rfl rfl rfl (info_ev _) (by simp only [sv_size, ev_size, ks_size, fx_size] <;> rfl) (ev_one _)⟩, ⟨rfl, rfl, fun g => sto_row rfl rfl rfl (info_ev _) (by simp only [sv_size, ev_size, ks_size, fx_size] <;> rfl) (ev_one _)⟩, trivial⟩ ?_
  clear H a W
  intro G10 a W H
  replace H : St 78 w a W [(57, .agg (ev z9)), (58, .agg (ev z11)), (59, .agg (ev z14)), (60, .agg (ev z15)), (61, .agg (ev z9)), (62, .agg (ev z11)), (63, .agg (ev z16)), (64, .agg (ev z17)), (11, .pointer (some ⟨(G10 8), 0, none⟩)), (12, .pointer (some ⟨(G10 9), 0, none⟩)), (9, .pointer (some ⟨(G9 6), 0, none⟩)), (10, .pointer (some ⟨(G9 7), 0, none⟩)), (8, .pointer (some ⟨g8, 0, none⟩)), (7, .pointer (some ⟨g7, 0, none⟩)), (4, .pointer (some ⟨g3, 0, none⟩))] [((G10 8), 27, ev z15), ((G10 9), 27, ev z17), ((G9 6), 27, ev z12), ((G9 7), 27, ev z13), (g8, 27, ev z11), (g7, 27, ev z9), (g3, 29, #[.int .u64 0, .int .u64 0, .int .u64 0, .int .u64 0, .int .u64 0, .int .u64 0, .int .u64 0, .int .u64 0, .int .u64 0, .int .u64 0, .int .u64 0, .int .u64 0, .int .u64 0, .int .u64 0, .int .u64 0, .int .u64 0])] := H
  replace H : St 78 w a W [(11, .pointer (some ⟨(G10 8), 0, none⟩)), (12, .pointer (some ⟨(G10 9), 0, none⟩)), (9, .pointer (some ⟨(G9 6), 0, none⟩)), (10, .pointer (some ⟨(G9 7), 0, none⟩)), (4, .pointer (some ⟨g3, 0, none⟩))] [((G10 8), 27, ev z15), ((G10 9), 27, ev z17), ((G9 6), 27, ev z12), ((G9 7), 27, ev z13), (g3, 29, #[.int .u64 0, .int .u64 0, .int .u64 0, .int .u64 0, .int .u64 0, .int .u64 0, .int .u64 0, .int .u64 0, .int .u64 0, .int .u64 0, .int .u64 0, .int .u64 0, .int .u64 0, .int .u64 0, .int .u64 0, .int .u64 0])] := H.pick [8, 9, 10, 11, 14] [0, 1, 2, 3, 6] rfl
  refine hK8 _ _ ?_
  clear hK8
  refine wp_seq_k (fun K9 hK9 => ?_)
  refine drawnS [.val 65 (.agg (ev z12)) [] [2], .val 66 (.agg (ev z17)) [] [1], .val 67 (.agg (ev z18)) [0, 1] [], .val 68 (.agg (ev z13)) [] [3], .val 69 (.agg (ev z15)) [] [0], .val 70 (.agg (ev z19)) [3, 4] [], .val 71 (.agg (ev z15)) [] [0], .val 72 (.agg (ev z17)) [] [1], .val 73 (.agg (ev z20)) [6, 7] [], .val 74 (.agg (ev z12)) [] [2], .val 75 (.agg (ev z13)) [] [3], .val 76 (.agg (ev z21)) [9, 10] [], .val 77 (.agg (sv ⟨z18, z19, z20, z21⟩)) [2, 5, 8, 11] [], .sto 4 g3 29 (#[.int .u64 0, .int .u64 0, .int .u64 0, .int .u64 0, .int .u64 0, .int .u64 0, .int .u64 0, .int .u64 0, .int .u64 0, .int .u64 0, .int .u64 0, .int .u64 0, .int .u64 0, .int .u64 0, .int .u64 0, .int .u64 0]) (sv ⟨z18, z19, z20, z21⟩) [12]] [0, 0, 3, 0, 0, 28, 0, 0, 224, 0, 0, 1792, 2340, 8191] (by kernel_rfl) (by kernel_rfl) (by kernel_rfl) H ⟨⟨does_load rfl rfl (k := 0) rfl Tryd.underlying27 rfl (info_ev _), wanted_none rfl⟩, ⟨does_load rfl rfl (k := 0) rfl Tryd.underlying27 rfl (info_ev _), wanted_none rfl⟩, ⟨does_call rfl ⟨_, Tryd.func36, by kernel_rfl⟩ rfl (fun W hb => mulP hz18 W (hpg.ext hb)), wanted_none rfl⟩, ⟨does_load rfl rfl (k := 0) rfl Tryd.underlying27 rfl (info_ev _), wanted_none rfl⟩, ⟨does_load rfl rfl (k := 0) rfl Tryd.underlying27 rfl (info_ev _), wanted_none rfl⟩, ⟨does_call rfl ⟨_, Tryd.func36, by kernel_rfl⟩ rfl (fun W hb => mulP hz19 W (hpg.ext hb)), wanted_none rfl⟩, ⟨does_load rfl rfl (k := 0) rfl Tryd.underlying27 rfl (info_ev _), wanted_none rfl⟩, ⟨does_load rfl rfl (k := 0) rfl Tryd.underlying27 rfl (info_ev _), wanted_none rfl⟩, ⟨does_call rfl ⟨_, Tryd.func36, by kernel_rfl⟩ rfl (fun W hb => mulP hz20 W (hpg.ext hb)), wanted_none rfl⟩, ⟨does_load rfl rfl (k := 0) rfl Tryd.underlying27 rfl (info_ev _), wanted_none rfl⟩, ⟨does_load rfl rfl (k := 0) rfl Tryd.underlying27 rfl (info_ev _), wanted_none rfl⟩, ⟨does_call rfl ⟨_, Tryd.func36, by kernel_rfl⟩ rfl (fun W hb => mulP hz21 W (hpg.ext hb)), wanted_none rfl⟩, ⟨does_build rfl rfl (bd_pt z18 z19 z20 z21), wanted_none rfl⟩, ⟨rfl, rfl, sto_row rfl rfl rfl (info_pt _) (by simp only [sv_size, ev_size, ks_size, fx_size] <;> rfl) (sv_one _)⟩, trivial⟩ ?_
  clear H a W
  intro G11 a W H
  replace H : St 78 w a W [(65, .agg (ev z12)), (66, .agg (ev z17)), (67, .agg (ev z18)), (68, .agg (ev z13)), (69, .agg (ev z15)), (70, .agg (ev z19)), (71, .agg (ev z15)), (72, .agg (ev z17)), (73, .agg (ev z20)), (74, .agg (ev z12)), (75, .agg (ev z13)), (76, .agg (ev z21)), (77, .agg (sv ⟨z18, z19, z20, z21⟩)), (11, .pointer (some ⟨(G10 8), 0, none⟩)), (12, .pointer (some ⟨(G10 9), 0, none⟩)), (9, .pointer (some ⟨(G9 6), 0, none⟩)), (10, .pointer (some ⟨(G9 7), 0, none⟩)), (4, .pointer (some ⟨g3, 0, none⟩))] [((G10 8), 27, ev z15), ((G10 9), 27, ev z17), ((G9 6), 27, ev z12), ((G9 7), 27, ev z13), (g3, 29, sv ⟨z18, z19, z20, z21⟩)] := H
  replace H : St 78 w a W [(4, .pointer (some ⟨g3, 0, none⟩))] [(g3, 29, sv ⟨z18, z19, z20, z21⟩)] := H.pick [17] [4] rfl
  refine hK9 _ _ ?_
  clear hK9
  refine wp_ret ?_
  repeat (first | (with_reducible refine then_ret ?_) | (with_reducible refine blk_ret ?_))
  refine end_cell (p := 4) rfl rfl (k := 0) rfl Tryd.underlying29 rfl (info_pt _) H (fun hb => ?_)
  refine ⟨?_, hb⟩
  rw [h]
  unfold ptAdd ptAdd0 paU paV paL paH
  subst hz1 hz2 hz3 hz4 hz5 hz6 hz7 hz8 hz9 hz10 hz11 hz12 hz13 hz14 hz15 hz16 hz17 hz18 hz19 hz20 hz21
  rfl
set_option maxHeartbeats 4000000 in
theorem equal_zero {s t : L4 PP} (h1 : ¬ (ptSet s).a * (ptSet t).c = (ptSet t).a * (ptSet s).c) (w : World) (hpg : PG w) : Calls Tryd.prog 25 #[.agg (sv s), .agg (sv t)] w (fun rr w' => rr = .returned (.bool false) ∧ Below w.heap.size w w') := by
  obtain ⟨zs, hzs⟩ : ∃ z, z = ptSet s := ⟨_, rfl⟩
  obtain ⟨zt, hzt⟩ : ∃ z, z = ptSet t := ⟨_, rfl⟩
  obtain ⟨z1, hz1⟩ : ∃ z : Fin PP, z = zs.a * zt.c := ⟨_, rfl⟩
  obtain ⟨z2, hz2⟩ : ∃ z : Fin PP, z = zt.a * zs.c := ⟨_, rfl⟩
  rw [← hzs, ← hzt, ← hz1, ← hz2] at h1
  refine calls_st (vs := [.agg (sv s), .agg (sv t)]) 33 Tryd.func25 rfl Tryd.ntmps25 rfl (fun a W H => ?_)
  replace H : St 33 w a W [(0, .agg (sv s)), (1, .agg (sv t))] [] := H
  refine wp_seq_k (fun K1 hK1 => ?_)
  refine rg_plain ?_
  refine pl_box rfl rfl (bx_pt s) rfl rfl rfl rfl H ?_
  clear H a W
  intro g1 a W H
  refine pl_box rfl rfl (bx_pt t) rfl rfl rfl rfl H ?_
  clear H a W
  intro g2 a W H
  refine pl_does (does_assign rfl rfl) rfl rfl rfl rfl H ?_
  clear H a W
  intro a W H
  refine pl_end ?_
  replace H : St 33 w a W [(4, .bool false), (3, .pointer (some ⟨g2, 0, none⟩)), (2, .pointer (some ⟨g1, 0, none⟩))] [(g2, 29, sv t), (g1, 29, sv s)] := H.pick [0, 1, 2] [0, 1] rfl
  refine hK1 _ _ ?_
  clear hK1
  refine wp_seq_k (fun K2 hK2 => ?_)
  refine drawnS [.val 5 (.agg (sv s)) [] [1], .val 6 (.agg (sv zs)) [0] [], .val 7 (.agg (sv t)) [] [0], .val 8 (.agg (sv zt)) [2] [], .sto 1 g1 29 (sv s) (sv zs) [1], .sto 0 g2 29 (sv t) (sv zt) [3]] [0, 1, 0, 6, 11, 31] (by kernel_rfl) (by kernel_rfl) (by kernel_rfl) H ⟨⟨does_load rfl rfl (k := 0) rfl Tryd.underlying29 rfl (info_pt _), wanted_none rfl⟩, ⟨does_call rfl ⟨_, Tryd.func59, by kernel_rfl⟩ rfl (fun W hb => settled_any hzs W (hpg.ext hb)), wanted_none rfl⟩, ⟨does_load rfl rfl (k := 0) rfl Tryd.underlying29 rfl (info_pt _), wanted_none rfl⟩, ⟨does_call rfl ⟨_, Tryd.func59, by kernel_rfl⟩ rfl (fun W hb => settled_any hzt W (hpg.ext hb)), wanted_none rfl⟩, ⟨rfl, rfl, sto_row rfl rfl rfl (info_pt _) (by simp only [sv_size, ev_size, ks_size, fx_size] <;> rfl) (sv_one _)⟩, ⟨rfl, rfl, sto_row rfl rfl rfl (info_pt _) (by simp only [sv_size, ev_size, ks_size, fx_size] <;> rfl) (sv_one _)⟩, trivial⟩ ?_
  clear H a W
  intro G3 a W H
  replace H : St 33 w a W [(5, .agg (sv s)), (6, .agg (sv zs)), (7, .agg (sv t)), (8, .agg (sv zt)), (4, .bool false), (3, .pointer (some ⟨g2, 0, none⟩)), (2, .pointer (some ⟨g1, 0, none⟩))] [(g2, 29, sv zt), (g1, 29, sv zs)] := H
  replace H : St 33 w a W [(4, .bool false), (3, .pointer (some ⟨g2, 0, none⟩)), (2, .pointer (some ⟨g1, 0, none⟩))] [(g2, 29, sv zt), (g1, 29, sv zs)] := H.pick [4, 5, 6] [0, 1] rfl
  refine hK2 _ _ ?_
  clear hK2
  refine wp_seq_k (fun K3 hK3 => ?_)
  replace H : St 33 w a W [(3, .pointer (some ⟨g2, 0, none⟩)), (2, .pointer (some ⟨g1, 0, none⟩))] [(g2, 29, sv zt), (g1, 29, sv zs)] := H.pick [1, 2] [0, 1] rfl
  refine drawnS [.val 9 (.pointer (some ⟨g1, 4 * 0, none⟩)) [] [], .val 10 (.agg (ev zs.a)) [0] [1], .val 11 (.pointer (some ⟨g2, 4 * 2, none⟩)) [] [], .val 12 (.agg (ev zt.c)) [2] [0], .val 13 (.agg (ev z1)) [1, 3] [], .val 14 (.pointer (some ⟨g2, 4 * 0, none⟩)) [] [], .val 15 (.agg (ev zt.a)) [5] [0], .val 16 (.pointer (some ⟨g1, 4 * 2, none⟩)) [] [], .val 17 (.agg (ev zs.c)) [7] [1], .val 18 (.agg (ev z2)) [6, 8] [], .val 19 (.bool false) [4, 9] [], .val 20 (.bool false) [10] [], .off 21 [11], .off 22 [12, 11], .off 23 [11], .off 24 [14, 11], .off 25 [13, 15, 11], .off 26 [11], .off 27 [17, 11], .off 28 [11], .off 29 [19, 11], .off 30 [18, 20, 11], .off 31 [16, 21, 11], .val 32 (.bool false) [11, 22] [], .val 4 (.bool false) [23] []] [0, 1, 0, 4, 10, 0, 32, 0, 128, 336, 528, 1024, 2048, 6144, 2048, 18432, 43008, 2048, 133120, 2048, 526336, 1378304, 2164736, 4196352, 16777215] (by kernel_rfl) (by kernel_rfl) (by kernel_rfl) H ⟨⟨does_fieldAddr rfl rfl (fa_pt _ · |>.1), wanted_none rfl⟩, ⟨does_loadAt (v := .agg (ev zs.a)) rfl rfl (k := 0) rfl (ld_pt (k := 0) (by omega)), wanted_none rfl⟩, ⟨does_fieldAddr rfl rfl (fa_pt _ · |>.2.2.1), wanted_none rfl⟩, ⟨does_loadAt (v := .agg (ev zt.c)) rfl rfl (k := 0) rfl (ld_pt (k := 2) (by omega)), wanted_none rfl⟩, ⟨does_call rfl ⟨_, Tryd.func36, by kernel_rfl⟩ rfl (fun W hb => mulP hz1 W (hpg.ext hb)), wanted_none rfl⟩, ⟨does_fieldAddr rfl rfl (fa_pt _ · |>.1), wanted_none rfl⟩, ⟨does_loadAt (v := .agg (ev zt.a)) rfl rfl (k := 0) rfl (ld_pt (k := 0) (by omega)), wanted_none rfl⟩, ⟨does_fieldAddr rfl rfl (fa_pt _ · |>.2.2.1), wanted_none rfl⟩, ⟨does_loadAt (v := .agg (ev zs.c)) rfl rfl (k := 0) rfl (ld_pt (k := 2) (by omega)), wanted_none rfl⟩, ⟨does_call rfl ⟨_, Tryd.func36, by kernel_rfl⟩ rfl (fun W hb => mulP hz2 W (hpg.ext hb)), wanted_none rfl⟩, ⟨does_call rfl ⟨_, Tryd.func63, by kernel_rfl⟩ rfl (fun W hb => equalB (decide_eq_false h1) W), wanted_none rfl⟩, ⟨does_move rfl rfl, wanted_none rfl⟩, wanted_some rfl rfl rfl rfl rfl, wanted_some rfl rfl rfl rfl rfl, wanted_some rfl rfl rfl rfl rfl, wanted_some rfl rfl rfl rfl rfl, wanted_some rfl rfl rfl rfl rfl, wanted_some rfl rfl rfl rfl rfl, wanted_some rfl rfl rfl rfl rfl, wanted_some rfl rfl rfl rfl rfl, wanted_some rfl rfl rfl rfl rfl, wanted_some rfl rfl rfl rfl rfl, wanted_some rfl rfl rfl rfl rfl, ⟨does_pick rfl rfl (fun hb => by cases hb) (fun _ => rfl), wanted_none rfl⟩, ⟨does_assign rfl rfl, wanted_none rfl⟩, trivial⟩ ?_
  clear H a W
  intro G4 a W H
  replace H : St 33 w a W [(9, .pointer (some ⟨g1, 4 * 0, none⟩)), (10, .agg (ev zs.a)), (11, .pointer (some ⟨g2, 4 * 2, none⟩)), (12, .agg (ev zt.c)), (13, .agg (ev z1)), (14, .pointer (some ⟨g2, 4 * 0, none⟩)), (15, .agg (ev zt.a)), (16, .pointer (some ⟨g1, 4 * 2, none⟩)), (17, .agg (ev zs.c)), (18, .agg (ev z2)), (19, .bool false), (20, .bool false), (21, undef), (22, undef), (23, undef), (24, undef), (25, undef), (26, undef), (27, undef), (28, undef), (29, undef), (30, undef), (31, undef), (32, .bool false), (4, .bool false), (3, .pointer (some ⟨g2, 0, none⟩)), (2, .pointer (some ⟨g1, 0, none⟩))] [(g2, 29, sv zt), (g1, 29, sv zs)] := H
  replace H : St 33 w a W [(4, .bool false)] [] := H.pick [24] [] rfl
  refine hK3 _ _ ?_
  clear hK3
  refine wp_ret ?_
  repeat (first | (with_reducible refine then_ret ?_) | (with_reducible refine blk_ret ?_))
  refine end_tmp (p := 4) rfl rfl H (fun hb => ?_)
  exact ⟨rfl, hb⟩
set_option maxHeartbeats 4000000 in
theorem equal_one {s t : L4 PP} (h1 : (ptSet s).a * (ptSet t).c = (ptSet t).a * (ptSet s).c) {b : Bool} (h2 : decide ((ptSet s).b * (ptSet t).c = (ptSet t).b * (ptSet s).c) = b) (w : World) (hpg : PG w) : Calls Tryd.prog 25 #[.agg (sv s), .agg (sv t)] w (fun rr w' => rr = .returned (.bool b) ∧ Below w.heap.size w w') := by
  obtain ⟨zs, hzs⟩ : ∃ z, z = ptSet s := ⟨_, rfl⟩
  obtain ⟨zt, hzt⟩ : ∃ z, z = ptSet t := ⟨_, rfl⟩
  obtain ⟨z1, hz1⟩ : ∃ z : Fin PP, z = zs.a * zt.c := ⟨_, rfl⟩
  obtain ⟨z2, hz2⟩ : ∃ z : Fin PP, z = zt.a * zs.c := ⟨_, rfl⟩
  obtain ⟨z3, hz3⟩ : ∃ z : Fin PP, z = zs.b * zt.c := ⟨_, rfl⟩
  obtain ⟨z4, hz4⟩ : ∃ z : Fin PP, z = zt.b * zs.c := ⟨_, rfl⟩
  rw [← hzs, ← hzt, ← hz1, ← hz2] at h1
  rw [← hzs, ← hzt, ← hz3, ← hz4] at h2
  refine calls_st (vs := [.agg (sv s), .agg (sv t)]) 33 Tryd.func25 rfl Tryd.ntmps25 rfl (fun a W H => ?_)
  replace H : St 33 w a W [(0, .agg (sv s)), (1, .agg (sv t))] [] := H
  refine wp_seq_k (fun K1 hK1 => ?_)
  refine rg_plain ?_
  refine pl_box rfl rfl (bx_pt s) rfl rfl rfl rfl H ?_
  clear H a W
  intro g1 a W H
  refine pl_box rfl rfl (bx_pt t) rfl rfl rfl rfl H ?_
  clear H a W
  intro g2 a W H
  refine pl_does (does_assign rfl rfl) rfl rfl rfl rfl H ?_
  clear H a W
  intro a W H
  refine pl_end ?_
  replace H : St 33 w a W [(4, .bool false), (3, .pointer (some ⟨g2, 0, none⟩)), (2, .pointer (some ⟨g1, 0, none⟩))] [(g2, 29, sv t), (g1, 29, sv s)] := H.pick [0, 1, 2] [0, 1] rfl
  refine hK1 _ _ ?_
  clear hK1
  refine wp_seq_k (fun K2 hK2 => ?_)
  refine drawnS [.val 5 (.agg (sv s)) [] [1], .val 6 (.agg (sv zs)) [0] [], .val 7 (.agg (sv t)) [] [0], .val 8 (.agg (sv zt)) [2] [], .sto 1 g1 29 (sv s) (sv zs) [1], .sto 0 g2 29 (sv t) (sv zt) [3]] [0, 1, 0, 6, 11, 31] (by kernel_rfl) (by kernel_rfl) (by kernel_rfl) H ⟨⟨does_load rfl rfl (k := 0) rfl Tryd.underlying29 rfl (info_pt _), wanted_none rfl⟩, ⟨does_call rfl ⟨_, Tryd.func59, by kernel_rfl⟩ rfl (fun W hb => settled_any hzs W (hpg.ext hb)), wanted_none rfl⟩, ⟨does_load rfl rfl (k := 0) rfl Tryd.underlying29 rfl (info_pt _), wanted_none rfl⟩, ⟨does_call rfl ⟨_, Tryd.func59, by kernel_rfl⟩ rfl (fun W hb => settled_any hzt W (hpg.ext hb)), wanted_none rfl⟩, ⟨rfl, rfl, sto_row rfl rfl rfl (info_pt _) (by simp only [sv_size, ev_size, ks_size, fx_size] <;> rfl) (sv_one _)⟩, ⟨rfl, rfl, sto_row rfl rfl rfl (info_pt _) (by simp only [sv_size, ev_size, ks_size, fx_size] <;> rfl) (sv_one _)⟩, trivial⟩ ?_
  clear H a W
  intro G3 a W H
  replace H : St 33 w a W [(5, .agg (sv s)), (6, .agg (sv zs)), (7, .agg (sv t)), (8, .agg (sv zt)), (4, .bool false), (3, .pointer (some ⟨g2, 0, none⟩)), (2, .pointer (some ⟨g1, 0, none⟩))] [(g2, 29, sv zt), (g1, 29, sv zs)] := H
  replace H : St 33 w a W [(4, .bool false), (3, .pointer (some ⟨g2, 0, none⟩)), (2, .pointer (some ⟨g1, 0, none⟩))] [(g2, 29, sv zt), (g1, 29, sv zs)] := H.pick [4, 5, 6] [0, 1] rfl
  refine hK2 _ _ ?_
  clear hK2
  refine wp_seq_k (fun K3 hK3 => ?_)
  replace H : St 33 w a W [(3, .pointer (some ⟨g2, 0, none⟩)), (2, .pointer (some ⟨g1, 0, none⟩))] [(g2, 29, sv zt), (g1, 29, sv zs)] := H.pick [1, 2] [0, 1] rfl
  refine drawnS [.val 9 (.pointer (some ⟨g1, 4 * 0, none⟩)) [] [], .val 10 (.agg (ev zs.a)) [0] [1], .val 11 (.pointer (some ⟨g2, 4 * 2, none⟩)) [] [], .val 12 (.agg (ev zt.c)) [2] [0], .val 13 (.agg (ev z1)) [1, 3] [], .val 14 (.pointer (some ⟨g2, 4 * 0, none⟩)) [] [], .val 15 (.agg (ev zt.a)) [5] [0], .val 16 (.pointer (some ⟨g1, 4 * 2, none⟩)) [] [], .val 17 (.agg (ev zs.c)) [7] [1], .val 18 (.agg (ev z2)) [6, 8] [], .val 19 (.bool true) [4, 9] [], .val 20 (.bool true) [10] [], .val 21 (.pointer (some ⟨g1, 4 * 1, none⟩)) [11] [], .val 22 (.agg (ev zs.b)) [12, 11] [1], .val 23 (.pointer (some ⟨g2, 4 * 2, none⟩)) [11] [], .val 24 (.agg (ev zt.c)) [14, 11] [0], .val 25 (.agg (ev z3)) [13, 15, 11] [], .val 26 (.pointer (some ⟨g2, 4 * 1, none⟩)) [11] [], .val 27 (.agg (ev zt.b)) [17, 11] [0], .val 28 (.pointer (some ⟨g1, 4 * 2, none⟩)) [11] [], .val 29 (.agg (ev zs.c)) [19, 11] [1], .val 30 (.agg (ev z4)) [18, 20, 11] [], .val 31 (.bool b) [16, 21, 11] [], .val 32 (.bool b) [11, 22] [], .val 4 (.bool b) [23] []] [0, 1, 0, 4, 10, 0, 32, 0, 128, 336, 528, 1024, 2048, 6144, 2048, 18432, 43008, 2048, 133120, 2048, 526336, 1378304, 2164736, 4196352, 16777215] (by kernel_rfl) (by kernel_rfl) (by kernel_rfl) H ⟨⟨does_fieldAddr rfl rfl (fa_pt _ · |>.1), wanted_none rfl⟩, ⟨does_loadAt (v := .agg (ev zs.a)) rfl rfl (k := 0) rfl (ld_pt (k := 0) (by omega)), wanted_none rfl⟩, ⟨does_fieldAddr rfl rfl (fa_pt _ · |>.2.2.1), wanted_none rfl⟩, ⟨does_loadAt (v := .agg (ev zt.c)) rfl rfl (k := 0) rfl (ld_pt (k := 2) (by omega)), wanted_none rfl⟩, ⟨does_call rfl ⟨_, Tryd.func36, by kernel_rfl⟩ rfl (fun W hb => mulP hz1 W (hpg.ext hb)), wanted_none rfl⟩, ⟨does_fieldAddr rfl rfl (fa_pt _ · |>.1), wanted_none rfl⟩, ⟨does_loadAt (v := .agg (ev zt.a)) rfl rfl (k := 0) rfl (ld_pt (k := 0) (by omega)), wanted_none rfl⟩, ⟨does_fieldAddr rfl rfl (fa_pt _ · |>.2.2.1), wanted_none rfl⟩, ⟨does_loadAt (v := .agg (ev zs.c)) rfl rfl (k := 0) rfl (ld_pt (k := 2) (by omega)), wanted_none rfl⟩, ⟨does_call rfl ⟨_, Tryd.func36, by kernel_rfl⟩ rfl (fun W hb => mulP hz2 W (hpg.ext hb)), wanted_none rfl⟩, ⟨does_call rfl ⟨_, Tryd.func63, by kernel_rfl⟩ rfl (fun W hb => equalB (decide_eq_true h1) W), wanted_none rfl⟩, ⟨does_move rfl rfl, wanted_none rfl⟩, ⟨does_fieldAddr rfl rfl (fa_pt _ · |>.2.1), wanted_some rfl rfl rfl rfl rfl⟩, ⟨does_loadAt (v := .agg (ev zs.b)) rfl rfl (k := 0) rfl (ld_pt (k := 1) (by omega)), wanted_some rfl rfl rfl rfl rfl⟩, ⟨does_fieldAddr rfl rfl (fa_pt _ · |>.2.2.1), wanted_some rfl rfl rfl rfl rfl⟩, ⟨does_loadAt (v := .agg (ev zt.c)) rfl rfl (k := 0) rfl (ld_pt (k := 2) (by omega)), wanted_some rfl rfl rfl rfl rfl⟩, ⟨does_call rfl ⟨_, Tryd.func36, by kernel_rfl⟩ rfl (fun W hb => mulP hz3 W (hpg.ext hb)), wanted_some rfl rfl rfl rfl rfl⟩, ⟨does_fieldAddr rfl rfl (fa_pt _ · |>.2.1), wanted_some rfl rfl rfl rfl rfl⟩, ⟨does_loadAt (v := .agg (ev zt.b)) rfl rfl (k := 0) rfl (ld_pt (k := 1) (by omega)), wanted_some rfl rfl rfl rfl rfl⟩, ⟨does_fieldAddr rfl rfl (fa_pt _ · |>.2.2.1), wanted_some rfl rfl rfl rfl rfl⟩, ⟨does_loadAt (v := .agg (ev zs.c)) rfl rfl (k := 0) rfl (ld_pt (k := 2) (by omega)), wanted_some rfl rfl rfl rfl rfl⟩, ⟨does_call rfl ⟨_, Tryd.func36, by kernel_rfl⟩ rfl (fun W hb => mulP hz4 W (hpg.ext hb)), wanted_some rfl rfl rfl rfl rfl⟩, ⟨does_call rfl ⟨_, Tryd.func63, by kernel_rfl⟩ rfl (fun W hb => equalB h2 W), wanted_some rfl rfl rfl rfl rfl⟩, ⟨does_pick rfl rfl (fun _ => rfl) (fun hb => by cases hb), wanted_none rfl⟩, ⟨does_assign rfl rfl, wanted_none rfl⟩, trivial⟩ ?_
  clear H a W
  intro G4 a W H
  replace H : St 33 w a W [(9, .pointer (some ⟨g1, 4 * 0, none⟩)), (10, .agg (ev zs.a)), (11, .pointer (some ⟨g2, 4 * 2, none⟩)), (12, .agg (ev zt.c)), (13, .agg (ev z1)), (14, .pointer (some ⟨g2, 4 * 0, none⟩)), (15, .agg (ev zt.a)), (16, .pointer (some ⟨g1, 4 * 2, none⟩)), (17, .agg (ev zs.c)), (18, .agg (ev z2)), (19, .bool true), (20, .bool true), (21, .pointer (some ⟨g1, 4 * 1, none⟩)), (22, .agg (ev zs.b)), (23, .pointer (some ⟨g2, 4 * 2, none⟩)), (24, .agg (ev zt.c)), (25, .agg (ev z3)), (26, .pointer (some ⟨g2, 4 * 1, none⟩)), (27, .agg (ev zt.b)), (28, .pointer (some ⟨g1, 4 * 2, none⟩)), (29, .agg (ev zs.c)), (30, .agg (ev z4)), (31, .bool b), (32, .bool b), (4, .bool b), (3, .pointer (some ⟨g2, 0, none⟩)), (2, .pointer (some ⟨g1, 0, none⟩))] [(g2, 29, sv zt), (g1, 29, sv zs)] := H
  replace H : St 33 w a W [(4, .bool b)] [] := H.pick [24] [] rfl
  refine hK3 _ _ ?_
  clear hK3
  refine wp_ret ?_
  repeat (first | (with_reducible refine then_ret ?_) | (with_reducible refine blk_ret ?_))
  refine end_tmp (p := 4) rfl rfl H (fun hb => ?_)
  exact ⟨rfl, hb⟩
theorem equal_pt {P Q : Pt} {s t : L4 PP} (hs : RepS P s) (ht : RepS Q t) {b : Bool} (h : decide (P = Q) = b) (w : World) (hpg : PG w) : Calls Tryd.prog 25 #[.agg (sv s), .agg (sv t)] w (fun rr w' => rr = .returned (.bool b) ∧ Below w.heap.size w w') := by
  have he := RepS.same hs ht
  subst h
  by_cases h1 : (ptSet s).a * (ptSet t).c = (ptSet t).a * (ptSet s).c
  · refine equal_one h1 ?_ w hpg
    rw [Bool.eq_iff_iff]
    simp only [decide_eq_true_eq]
    rw [← he]
    exact ⟨fun h => ⟨h1, h⟩, fun h => h.2⟩
  · rw [decide_eq_false (fun e => h1 (he.2 e).1)]
    exact equal_zero h1 w hpg
theorem pbit_any (e i : Nat) (w : World) (hi : i < 256) :
    Calls Tryd.prog 64 #[.agg (ks e), .int .i64 (i : Int)] w fun r w' => r = .returned (.bool (bitB e i)) ∧ Below w.heap.size w w' := by
  have hc : (w.alloc (.cells (ks e) 23)).cell? ⟨w.heap.size, i / 8, none⟩ = some (.int .u8 ((e / 256 ^ (i / 8) % 256 : Nat) : Int)) := by
    rw [(Blk.new w 23 (ks e)).cell, ks_get _ (by omega)]
  have hx : e / 256 ^ (i / 8) % 256 < 256 := Nat.mod_lt _ (by omega)
  have hb := bit_at e i
  have ha := and_one8 (e / 256 ^ (i / 8) % 256 / 2 ^ (i % 8)) (Nat.lt_of_le_of_lt (Nat.div_le_self _ _) hx)
  rw [hb, Int.natCast_ediv, Int.natCast_pow] at ha
  have HA := Lib.hid ha
  clear hb ha
  generalize e / 256 ^ (i / 8) % 256 = x at *
  have b1 : (0 : Int) ≤ (i : Int) / 8 := by omega
  have b2 : (i : Int) / 8 < 32 := by omega
  have b3 : ((i : Int) % 8) < 65 := by omega
  go_enter Tryd.func64, Tryd.ntmps64
  go_wp2
  go_ret
  refine ⟨?_, (Below.refl _ _).alloc (Nat.le_refl _) _⟩
  show Ending.returned (.bool (bits .and .u8 ((x : Int) / 2 ^ (i % 8)) 1 == 1)) = _
  have := HA.out
  rw [show ((2 : Nat) : Int) = 2 from rfl] at this
  rw [this]
  rfl
theorem pbitB {n i : Nat} {b : Bool} (h : lbit n i = b) (w : World) (hi : i < 256) : Calls Tryd.prog 64 #[.agg (ks n), .int .i64 (i : Int)] w fun r w' => r = .returned (.bool b) ∧ Below w.heap.size w w' := by
  subst h
  exact pbit_any n i w hi
section
attribute [local semireducible] ev sv ptMul
theorem pt_zeros (n : Nat) (s : L4 PP) : #[.int .u64 0, .int .u64 0, .int .u64 0, .int .u64 0, .int .u64 0, .int .u64 0, .int .u64 0, .int .u64 0, .int .u64 0, .int .u64 0, .int .u64 0, .int .u64 0, .int .u64 0, .int .u64 0, .int .u64 0, .int .u64 0] = sv (ptMul s n 0) := by kernel_rfl
theorem ptMul_yes {n k : Nat} {s : L4 PP} (h : lbit n (255 - k) = true) : ptMul s n (k + 1) = ptAdd (ptAdd (ptMul s n k) (ptMul s n k)) s := by
  show (if lbit n (255 - k) = true then _ else _) = _
  rw [if_pos h]
theorem ptMul_no {n k : Nat} {s : L4 PP} (h : lbit n (255 - k) = false) : ptMul s n (k + 1) = ptAdd (ptMul s n k) (ptMul s n k) := by
  show (if lbit n (255 - k) = true then _ else _) = _
  rw [if_neg (by rw [h]; decide)]
end
set_option maxHeartbeats 4000000 in
theorem mul_pt {s r : L4 PP} {n : Nat} (h : r = ptMul s n 256) (w : World) (hpg : PG w) : Calls Tryd.prog 27 #[.agg (sv s), .agg (ks n)] w (fun rr w' => rr = .returned (.agg (sv r)) ∧ Below w.heap.size w w') := by
  refine calls_st (vs := [.agg (sv s), .agg (ks n)]) 22 Tryd.func27 rfl Tryd.ntmps27 rfl (fun a W H => ?_)
  replace H : St 22 w a W [(0, .agg (sv s)), (1, .agg (ks n))] [] := H
  refine wp_seq_k (fun K1 hK1 => ?_)
  refine rg_plain ?_
  refine pl_box rfl rfl (bx_pt s) rfl rfl rfl rfl H ?_
  clear H a W
  intro g1 a W H
  refine pl_box rfl rfl (bx_key n) rfl rfl rfl rfl H ?_
  clear H a W
  intro g2 a W H
  refine pl_new (news_of rfl al_pt) rfl rfl rfl rfl H ?_
  clear H a W
  intro g3 a W H
  refine pl_end ?_
  replace H : St 22 w a W [(4, .pointer (some ⟨g3, 0, none⟩)), (3, .pointer (some ⟨g2, 0, none⟩)), (2, .pointer (some ⟨g1, 0, none⟩))] [(g3, 29, #[.int .u64 0, .int .u64 0, .int .u64 0, .int .u64 0, .int .u64 0, .int .u64 0, .int .u64 0, .int .u64 0, .int .u64 0, .int .u64 0, .int .u64 0, .int .u64 0, .int .u64 0, .int .u64 0, .int .u64 0, .int .u64 0]), (g2, 23, ks n), (g1, 29, sv s)] := H.pick [0, 1, 2] [0, 1, 2] rfl
  refine hK1 _ _ ?_
  clear hK1
  refine wp_seq_k (fun K2 hK2 => ?_)
  refine rg_plain ?_
  refine pl_new (news_of rfl al_pt) rfl rfl rfl rfl H ?_
  clear H a W
  intro g4 a W H
  refine pl_end ?_
  refine hK2 _ _ ?_
  clear hK2
  refine wp_seq_k (fun K3 hK3 => ?_)
  refine wp_seq_k (fun K4 hK4 => ?_)
  refine rg_plain ?_
  refine pl_does (does_move rfl rfl) rfl rfl rfl rfl H ?_
  clear H a W
  intro a W H
  refine pl_end ?_
  refine hK4 _ _ ?_
  clear hK4
  refine wp_block ?_
  replace H : St 22 w a W [(7, .int .i64 ((0 : Nat) : Int)), (5, .pointer (some ⟨g4, 0, none⟩)), (4, .pointer (some ⟨g3, 0, none⟩)), (3, .pointer (some ⟨g2, 0, none⟩)), (2, .pointer (some ⟨g1, 0, none⟩))] [(g4, 29, #[.int .u64 0, .int .u64 0, .int .u64 0, .int .u64 0, .int .u64 0, .int .u64 0, .int .u64 0, .int .u64 0, .int .u64 0, .int .u64 0, .int .u64 0, .int .u64 0, .int .u64 0, .int .u64 0, .int .u64 0, .int .u64 0]), (g3, 29, #[.int .u64 0, .int .u64 0, .int .u64 0, .int .u64 0, .int .u64 0, .int .u64 0, .int .u64 0, .int .u64 0, .int .u64 0, .int .u64 0, .int .u64 0, .int .u64 0, .int .u64 0, .int .u64 0, .int .u64 0, .int .u64 0]), (g2, 23, ks n), (g1, 29, sv s)] := H.pick [0, 1, 2, 3, 4] [0, 1, 2, 3] rfl
  rw [pt_zeros n s] at H
  refine wp_rounds 256 (fun k a W => St 22 w a W [(7, .int .i64 ((k : Nat) : Int)), (5, .pointer (some ⟨g4, 0, none⟩)), (4, .pointer (some ⟨g3, 0, none⟩)), (3, .pointer (some ⟨g2, 0, none⟩)), (2, .pointer (some ⟨g1, 0, none⟩))] [(g4, 29, sv (ptMul s n (k))), (g3, 29, sv (ptMul s n 0)), (g2, 23, ks n), (g1, 29, sv s)]) (k0 := 0) H (by omega) ?_
  clear H a W
  intro k a W hk H
  by_cases hk2 : k < 256
  · rcases Bool.eq_false_or_eq_true (lbit n (255 - k)) with hbit | hbit
    · have hn : ptMul s n (k + 1) = ptAdd (ptAdd (ptMul s n k) (ptMul s n k)) s := ptMul_yes hbit
      refine wp_seq_k (fun K5 hK5 => ?_)
      refine rg_plain ?_
      refine pl_does (does_binOp rfl rfl rfl (i_lss_yes (m := 256) hk2 _ _)) rfl rfl rfl rfl H ?_
      clear H a W
      intro a W H
      refine pl_end ?_
      refine hK5 _ _ ?_
      clear hK5
      refine wp_seq_k (fun K6 hK6 => ?_)
      refine wp_cond_true (H.ev rfl) ?_
      refine wp_skip ?_
      refine hK6 _ _ ?_
      clear hK6
      refine wp_seq_k (fun K7 hK7 => ?_)
      refine wp_block ?_
      refine wp_seq_k (fun K8 hK8 => ?_)
      refine rg_plain ?_
      refine pl_does (does_move rfl rfl) rfl rfl rfl rfl H ?_
      clear H a W
      intro a W H
      refine pl_does (does_assign rfl rfl) rfl rfl rfl rfl H ?_
      clear H a W
      intro a W H
      refine pl_end ?_
      refine hK8 _ _ ?_
      clear hK8
      refine wp_seq_k (fun K9 hK9 => ?_)
      refine rg_plain ?_
      refine pl_does (does_load rfl rfl (k := 0) rfl Tryd.underlying29 rfl (info_pt _)) rfl rfl rfl rfl H ?_
      clear H a W
      intro a W H
      refine pl_does (does_load rfl rfl (k := 0) rfl Tryd.underlying29 rfl (info_pt _)) rfl rfl rfl rfl H ?_
      clear H a W
      intro a W H
      refine pl_does (does_call rfl ⟨_, Tryd.func20, by kernel_rfl⟩ rfl (fun W hb => add_pt rfl W (hpg.ext hb))) rfl rfl rfl rfl H ?_
      clear H a W
      intro a W H
      refine pl_store rfl rfl rfl (k := 0) rfl (info_pt _) (by simp only [sv_size, ev_size, ks_size, fx_size] <;> rfl) (sv_one _) rfl rfl H ?_
      clear H a W
      intro a W H
      refine pl_end ?_
      refine hK9 _ _ ?_
      clear hK9
      refine wp_seq_k (fun K10 hK10 => ?_)
      refine rg_plain ?_
      refine pl_does (does_load rfl rfl (k := 2) rfl Tryd.underlying23 rfl (info_ks _)) rfl rfl rfl rfl H ?_
      clear H a W
      intro a W H
      refine pl_does (does_move rfl rfl) rfl rfl rfl rfl H ?_
      clear H a W
      intro a W H
      refine pl_does (does_binOp rfl rfl rfl (i_from (m := 255) (by omega) (by omega) _ _)) rfl rfl rfl rfl H ?_
      clear H a W
      intro a W H
      refine pl_does (does_call rfl ⟨_, Tryd.func64, by kernel_rfl⟩ rfl (fun W hb => pbitB hbit W (by omega))) rfl rfl rfl rfl H ?_
      clear H a W
      intro a W H
      refine pl_end ?_
      refine hK10 _ _ ?_
      clear hK10
      refine wp_cond_true (H.ev rfl) ?_
      refine rg_plain ?_
      refine pl_does (does_load rfl rfl (k := 0) rfl Tryd.underlying29 rfl (info_pt _)) rfl rfl rfl rfl H ?_
      clear H a W
      intro a W H
      refine pl_does (does_load rfl rfl (k := 3) rfl Tryd.underlying29 rfl (info_pt _)) rfl rfl rfl rfl H ?_
      clear H a W
      intro a W H
      refine pl_does (does_call rfl ⟨_, Tryd.func20, by kernel_rfl⟩ rfl (fun W hb => add_pt rfl W (hpg.ext hb))) rfl rfl rfl rfl H ?_
      clear H a W
      intro a W H
      refine pl_store rfl rfl rfl (k := 0) rfl (info_pt _) (by simp only [sv_size, ev_size, ks_size, fx_size] <;> rfl) (sv_one _) rfl rfl H ?_
      clear H a W
      intro a W H
      refine pl_end ?_
      refine blk_normal ?_
      refine hK7 _ _ ?_
      clear hK7
      refine rg_plain ?_
      refine pl_does (does_binOp rfl rfl rfl (i_inc (by omega) _ _)) rfl rfl rfl rfl H ?_
      clear H a W
      intro a W H
      replace H : St 22 w a W [(20, .int .i64 ((k + 1 : Nat) : Int)), (19, .agg (sv (ptAdd ((ptAdd ((ptMul s n (k))) ((ptMul s n (k))))) s))), (18, .agg (sv s)), (17, .agg (sv (ptAdd ((ptMul s n (k))) ((ptMul s n (k)))))), (16, .bool true), (15, .int .i64 ((255 - k : Nat) : Int)), (14, .int .i64 ((k : Nat) : Int)), (13, .agg (ks n)), (12, .agg (sv (ptAdd ((ptMul s n (k))) ((ptMul s n (k)))))), (11, .agg (sv (ptMul s n (k)))), (10, .agg (sv (ptMul s n (k)))), (6, .int .i64 ((k : Nat) : Int)), (9, .int .i64 ((k : Nat) : Int)), (8, .bool true), (5, .pointer (some ⟨g4, 0, none⟩)), (4, .pointer (some ⟨g3, 0, none⟩)), (3, .pointer (some ⟨g2, 0, none⟩)), (2, .pointer (some ⟨g1, 0, none⟩))] [(g4, 29, sv (ptAdd ((ptAdd ((ptMul s n (k))) ((ptMul s n (k))))) s)), (g3, 29, sv (ptMul s n 0)), (g2, 23, ks n), (g1, 29, sv s)] := H.pick [0, 1, 2, 3, 4, 5, 6, 7, 8, 9, 10, 11, 12, 13, 15, 16, 17, 18] [0, 1, 2, 3] rfl
      refine pl_does (does_move rfl rfl) rfl rfl rfl rfl H ?_
      clear H a W
      intro a W H
      refine pl_end ?_
      refine ⟨k + 1, by omega, by omega, ?_⟩
      show St 22 w a W [(7, .int .i64 ((k + 1 : Nat) : Int)), (5, .pointer (some ⟨g4, 0, none⟩)), (4, .pointer (some ⟨g3, 0, none⟩)), (3, .pointer (some ⟨g2, 0, none⟩)), (2, .pointer (some ⟨g1, 0, none⟩))] [(g4, 29, sv (ptMul s n (k + 1))), (g3, 29, sv (ptMul s n 0)), (g2, 23, ks n), (g1, 29, sv s)]
      rw [hn]
      exact H.pick [0, 15, 16, 17, 18] [0, 1, 2, 3] rfl
    · have hn : ptMul s n (k + 1) = ptAdd (ptMul s n k) (ptMul s n k) := ptMul_no hbit
      refine wp_seq_k (fun K11 hK11 => ?_)
      refine rg_plain ?_
      refine pl_does (does_binOp rfl rfl rfl (i_lss_yes (m := 256) hk2 _ _)) rfl rfl rfl rfl H ?_
      clear H a W
      intro a W H
      refine pl_end ?_
      refine hK11 _ _ ?_
      clear hK11
      refine wp_seq_k (fun K12 hK12 => ?_)
      refine wp_cond_true (H.ev rfl) ?_
      refine wp_skip ?_
      refine hK12 _ _ ?_
      clear hK12
      refine wp_seq_k (fun K13 hK13 => ?_)
      refine wp_block ?_
      refine wp_seq_k (fun K14 hK14 => ?_)
      refine rg_plain ?_
      refine pl_does (does_move rfl rfl) rfl rfl rfl rfl H ?_
      clear H a W
      intro a W H
      refine pl_does (does_assign rfl rfl) rfl rfl rfl rfl H ?_
      clear H a W
      intro a W H
      refine pl_end ?_
      refine hK14 _ _ ?_
      clear hK14
      refine wp_seq_k (fun K15 hK15 => ?_)
      refine rg_plain ?_
      refine pl_does (does_load rfl rfl (k := 0) rfl Tryd.underlying29 rfl (info_pt _)) rfl rfl rfl rfl H ?_
      clear H a W
      intro a W H
      refine pl_does (does_load rfl rfl (k := 0) rfl Tryd.underlying29 rfl (info_pt _)) rfl rfl rfl rfl H ?_
      clear H a W
      intro a W H
      refine pl_does (does_call rfl ⟨_, Tryd.func20, by kernel_rfl⟩ rfl (fun W hb => add_pt rfl W (hpg.ext hb))) rfl rfl rfl rfl H ?_
      clear H a W
      intro a W H
      refine pl_store rfl rfl rfl (k := 0) rfl (info_pt _) (by simp only [sv_size, ev_size, ks_size, fx_size] <;> rfl) (sv_one _) rfl rfl H ?_
      clear H a W
      intro a W H
      refine pl_end ?_
      refine hK15 _ _ ?_
      clear hK15
      refine wp_seq_k (fun K16 hK16 => ?_)
      refine rg_plain ?_
      refine pl_does (does_load rfl rfl (k := 2) rfl Tryd.underlying23 rfl (info_ks _)) rfl rfl rfl rfl H ?_
      clear H a W
      intro a W H
      refine pl_does (does_move rfl rfl) rfl rfl rfl rfl H ?_
      clear H a W
      intro a W H
      refine pl_does (does_binOp rfl rfl rfl (i_from (m := 255) (by omega) (by omega) _ _)) rfl rfl rfl rfl H ?_
      clear H a W
      intro a W H
      refine pl_does (does_call rfl ⟨_, Tryd.func64, by kernel_rfl⟩ rfl (fun W hb => pbitB hbit W (by omega))) rfl rfl rfl rfl H ?_
      clear H a W
      intro a W H
      refine pl_end ?_
      refine hK16 _ _ ?_
      clear hK16
      refine wp_cond_false (H.ev rfl) ?_
      refine wp_skip ?_
      refine blk_normal ?_
      refine hK13 _ _ ?_
      clear hK13
      refine rg_plain ?_
      refine pl_does (does_binOp rfl rfl rfl (i_inc (by omega) _ _)) rfl rfl rfl rfl H ?_
      clear H a W
      intro a W H
      replace H : St 22 w a W [(20, .int .i64 ((k + 1 : Nat) : Int)), (16, .bool false), (15, .int .i64 ((255 - k : Nat) : Int)), (14, .int .i64 ((k : Nat) : Int)), (13, .agg (ks n)), (12, .agg (sv (ptAdd ((ptMul s n (k))) ((ptMul s n (k)))))), (11, .agg (sv (ptMul s n (k)))), (10, .agg (sv (ptMul s n (k)))), (6, .int .i64 ((k : Nat) : Int)), (9, .int .i64 ((k : Nat) : Int)), (8, .bool true), (5, .pointer (some ⟨g4, 0, none⟩)), (4, .pointer (some ⟨g3, 0, none⟩)), (3, .pointer (some ⟨g2, 0, none⟩)), (2, .pointer (some ⟨g1, 0, none⟩))] [(g4, 29, sv (ptAdd ((ptMul s n (k))) ((ptMul s n (k))))), (g3, 29, sv (ptMul s n 0)), (g2, 23, ks n), (g1, 29, sv s)] := H.pick [0, 1, 2, 3, 4, 5, 6, 7, 8, 9, 10, 12, 13, 14, 15] [0, 1, 2, 3] rfl
      refine pl_does (does_move rfl rfl) rfl rfl rfl rfl H ?_
      clear H a W
      intro a W H
      refine pl_end ?_
      refine ⟨k + 1, by omega, by omega, ?_⟩
      show St 22 w a W [(7, .int .i64 ((k + 1 : Nat) : Int)), (5, .pointer (some ⟨g4, 0, none⟩)), (4, .pointer (some ⟨g3, 0, none⟩)), (3, .pointer (some ⟨g2, 0, none⟩)), (2, .pointer (some ⟨g1, 0, none⟩))] [(g4, 29, sv (ptMul s n (k + 1))), (g3, 29, sv (ptMul s n 0)), (g2, 23, ks n), (g1, 29, sv s)]
      rw [hn]
      exact H.pick [0, 12, 13, 14, 15] [0, 1, 2, 3] rfl
  · obtain rfl : k = 256 := by omega
    refine wp_seq_k (fun K17 hK17 => ?_)
    refine rg_plain ?_
    refine pl_does (does_binOp rfl rfl rfl (i_lss_no (m := 256) (by omega) _ _)) rfl rfl rfl rfl H ?_
    clear H a W
    intro a W H
    refine pl_end ?_
    refine hK17 _ _ ?_
    clear hK17
    refine wp_seq_k (fun K18 hK18 => ?_)
    refine wp_cond_false (H.ev rfl) ?_
    refine wp_exit ?_
    repeat (with_reducible refine then_exit ?_)
    refine blk_exit ?_
    refine hK3 _ _ ?_
    clear hK3
    refine wp_seq_k (fun K19 hK19 => ?_)
    refine rg_plain ?_
    refine pl_does (does_load rfl rfl (k := 0) rfl Tryd.underlying29 rfl (info_pt _)) rfl rfl rfl rfl H ?_
    clear H a W
    intro a W H
    refine pl_store rfl rfl rfl (k := 1) rfl (info_pt _) (by simp only [sv_size, ev_size, ks_size, fx_size] <;> rfl) (sv_one _) rfl rfl H ?_
    clear H a W
    intro a W H
    refine pl_end ?_
    replace H : St 22 w a W [(4, .pointer (some ⟨g3, 0, none⟩))] [(g3, 29, sv (ptMul s n (256)))] := H.pick [4] [1] rfl
    refine hK19 _ _ ?_
    clear hK19
    refine wp_ret ?_
    repeat (first | (with_reducible refine then_ret ?_) | (with_reducible refine blk_ret ?_))
    refine end_cell (p := 4) rfl rfl (k := 0) rfl Tryd.underlying29 rfl (info_pt _) H (fun hb => ?_)
    exact ⟨by rw [h], hb⟩
set_option maxHeartbeats 4000000 in
theorem base_pt {r : L4 PP} {n : Nat} (h : r = ptMul BE n 256) (w : World) (hpg : PG w) : Calls Tryd.prog 29 #[.agg (ks n)] w (fun rr w' => rr = .returned (.agg (sv r)) ∧ Below w.heap.size w w') := by
  refine calls_st (vs := [.agg (ks n)]) 6 Tryd.func29 rfl Tryd.ntmps29 rfl (fun a W H => ?_)
  replace H : St 6 w a W [(0, .agg (ks n))] [] := H
  refine wp_seq_k (fun K1 hK1 => ?_)
  refine rg_plain ?_
  refine pl_box rfl rfl (bx_key n) rfl rfl rfl rfl H ?_
  clear H a W
  intro g1 a W H
  refine pl_new (news_of rfl al_pt) rfl rfl rfl rfl H ?_
  clear H a W
  intro g2 a W H
  refine pl_end ?_
  replace H : St 6 w a W [(2, .pointer (some ⟨g2, 0, none⟩)), (1, .pointer (some ⟨g1, 0, none⟩))] [(g2, 29, #[.int .u64 0, .int .u64 0, .int .u64 0, .int .u64 0, .int .u64 0, .int .u64 0, .int .u64 0, .int .u64 0, .int .u64 0, .int .u64 0, .int .u64 0, .int .u64 0, .int .u64 0, .int .u64 0, .int .u64 0, .int .u64 0]), (g1, 23, ks n)] := H.pick [0, 1] [0, 1] rfl
  refine hK1 _ _ ?_
  clear hK1
  refine wp_seq_k (fun K2 hK2 => ?_)
  refine drawnS [.val 3 (.agg (sv BE)) [] [], .val 4 (.agg (ks n)) [] [1], .val 5 (.agg (sv r)) [0, 1] [], .sto 0 g2 29 (#[.int .u64 0, .int .u64 0, .int .u64 0, .int .u64 0, .int .u64 0, .int .u64 0, .int .u64 0, .int .u64 0, .int .u64 0, .int .u64 0, .int .u64 0, .int .u64 0, .int .u64 0, .int .u64 0, .int .u64 0, .int .u64 0]) (sv r) [2]] [0, 0, 3, 7] (by kernel_rfl) (by kernel_rfl) (by kernel_rfl) H ⟨⟨does_call rfl ⟨_, Tryd.func65, by kernel_rfl⟩ rfl (fun W hb => writtenBase_any W (hpg.ext hb)), wanted_none rfl⟩, ⟨does_load rfl rfl (k := 0) rfl Tryd.underlying23 rfl (info_ks _), wanted_none rfl⟩, ⟨does_call rfl ⟨_, Tryd.func27, by kernel_rfl⟩ rfl (fun W hb => mul_pt h W (hpg.ext hb)), wanted_none rfl⟩, ⟨rfl, rfl, sto_row rfl rfl rfl (info_pt _) (by simp only [sv_size, ev_size, ks_size, fx_size] <;> rfl) (sv_one _)⟩, trivial⟩ ?_
  clear H a W
  intro G3 a W H
  replace H : St 6 w a W [(3, .agg (sv BE)), (4, .agg (ks n)), (5, .agg (sv r)), (2, .pointer (some ⟨g2, 0, none⟩)), (1, .pointer (some ⟨g1, 0, none⟩))] [(g2, 29, sv r), (g1, 23, ks n)] := H
  replace H : St 6 w a W [(2, .pointer (some ⟨g2, 0, none⟩))] [(g2, 29, sv r)] := H.pick [3] [0] rfl
  refine hK2 _ _ ?_
  clear hK2
  refine wp_ret ?_
  repeat (first | (with_reducible refine then_ret ?_) | (with_reducible refine blk_ret ?_))
  refine end_cell (p := 2) rfl rfl (k := 0) rfl Tryd.underlying29 rfl (info_pt _) H (fun hb => ?_)
  exact ⟨rfl, hb⟩
end Go.Proofs.YtcijaoihcckofaaDoor
namespace Go.Proofs.YtcijaoihcckofaaDoor
set_option linter.unusedVariables false
set_option linter.unusedSimpArgs false
set_option maxRecDepth 100000
open Go Go.RowKit
section
variable {p : Nat} [NeZero p] {e : Nat} {i u v : Fin p}
end
attribute [local irreducible] dv ds EE II rootR evenOf
end Go.Proofs.YtcijaoihcckofaaDoor
namespace Go.Proofs.YtcijaoihcckofaaDoor
set_option linter.unusedVariables false
set_option linter.unusedSimpArgs false
set_option maxRecDepth 100000
open Go Go.RowKit
section
variable {P : Program} {W : World} {g o : Nat} {t ty : TypeId} {cs pre mid post new : Array Value} {d : TypeDesc}
end
/-- A point's cells. -/
def tv (r : Pj3) : Array Value := dv r.X ++ dv r.Y ++ dv r.Z
theorem tv_size (r : Pj3) : (tv r).size = 48 := by unfold tv; rw [Array.size_append, Array.size_append, dv_size, dv_size, dv_size]
/-- A curve's cells. -/
def cv (d : Fin PP) (r : Pj3) : Array Value := dv d ++ tv r
theorem cv_size (d : Fin PP) (r : Pj3) : (cv d r).size = 64 := by unfold cv; rw [Array.size_append, dv_size, tv_size]
attribute [local irreducible] dv tv cv
theorem al_key0 (W : World) : (Instr.alloc 23 true (.tuple #[])).run Tryd.prog W = .ok (.pointer (some ⟨W.heap.size, 0, none⟩)) (W.alloc (.cells (ks 0) 23)) := by kernel_rfl
theorem bx_keyr (n : Nat) (W : World) : (Instr.box 23 (.agg (ks n))).run Tryd.prog W = .ok (.pointer (some ⟨W.heap.size, 0, none⟩)) (W.alloc (.cells (ks n) 23)) := by kernel_rfl
section
variable {P : Program} {t : TypeId}
end
theorem ia_keyn {j : Nat} (hj : j < 32) {g : Nat} (W : World) : (Instr.indexAt 23 (.pointer (some ⟨g, 0, none⟩)) (.int .i64 (j : Int))).run Tryd.prog W = .ok (.pointer (some ⟨g, j, none⟩)) W := by
  have h1 : (0 : Int) ≤ (j : Int) := by omega
  have h2 : (j : Int) < 32 := by omega
  go_simp
theorem ld_keyn {n j x : Nat} (hj : j < 32) (hx : n / 256 ^ j % 256 = x) {g : Nat} (W : World) (h : Blk W g 23 (ks n)) : (Instr.loadAt 5 (.pointer (some ⟨g, j, none⟩))).run Tryd.prog W = .ok (.int .u8 (x : Int)) W := by
  have hc := h.cell j
  rw [ks_get n hj, hx] at hc
  go_simp
end Go.Proofs.YtcijaoihcckofaaDoor
namespace Go.Proofs.YtcijaoihcckofaaDoor
set_option linter.unusedVariables false
set_option linter.unusedSimpArgs false
/-- L. -/
def LL : Nat := 7237005577332262213973186563042994240857116359379907606001950938285454250989
theorem LL_eq : LL = 7237005577332262213973186563042994240857116359379907606001950938285454250989 := rfl
theorem LL_lt : LL < 115792089237316195423570985008687907853269984665640564039457584007913129639936 := by rw [LL_eq]; omega
end Go.Proofs.YtcijaoihcckofaaDoor
namespace Go.Proofs.YtcijaoihcckofaaDoor
set_option linter.unusedVariables false
set_option linter.unusedSimpArgs false
open Go.RowKit
/-- The decimals of the text. -/
def NT : Nat := 27742317777372353535851937790883648493
def TXT : ByteArray := { data := #[50, 55, 55, 52, 50, 51, 49, 55, 55, 55, 55, 51, 55, 50, 51, 53, 51, 53, 51, 53, 56, 53, 49, 57, 51, 55, 55, 57, 48, 56, 56, 51, 54, 52, 56, 52, 57, 51] }
theorem TXT_size : TXT.size = 38 := rfl
def dgt (j : Nat) : Nat := NT / 10 ^ (37 - j) % 10
theorem dgt_lt (j : Nat) : dgt j < 10 := Nat.mod_lt _ (by omega)
theorem txt_at : ∀ j : Fin 38, TXT.data[j.val]?.map (·.toNat) = some (48 + dgt j.val) := by decide +kernel
theorem txt_index (j : Nat) (hj : j < 38) (W : World) : (Instr.index 9 (.string TXT) (.int .i64 (j : Int))).run Tryd.prog W = .ok (.int .u8 ((48 + dgt j : Nat) : Int)) W := by
  have h := txt_at ⟨j, hj⟩
  have hs : TXT.data.size = 38 := TXT_size
  rw [run_index_string (P := Tryd.prog) W 9 TXT .i64 (j : Int) Tryd.underlying9, dif_pos (by rw [TXT_size]; omega)]
  simp only [Array.getElem?_eq_getElem (show j < TXT.data.size by omega), Option.map_some, Option.some.injEq] at h
  congr 3
def pre (j : Nat) : Nat := NT / 10 ^ (38 - j)
theorem pre_step {j : Nat} (hj : j < 38) : pre (j + 1) = 10 * pre j + dgt j := by
  unfold pre dgt
  have h1 : 38 - (j + 1) = 37 - j := by omega
  have h2 : 38 - j = 37 - j + 1 := by omega
  rw [h1, h2, Nat.pow_succ, ← Nat.div_div_eq_div_mul]
  omega
theorem pre_le (j : Nat) : pre j ≤ NT := Nat.div_le_self _ _
theorem pre_end : pre 38 = NT := by decide
theorem pre_start : pre 0 = 0 := by decide
theorem order_put : (ds NT).setIfInBounds 15 (.int .u64 4096) = ds LL := by kernel_rfl
theorem order_top : (ds NT)[15]? = some (.int .u64 0) := by kernel_rfl
set_option maxRecDepth 100000 in
set_option maxHeartbeats 2000000 in
theorem rorder_any (w : World) : Calls Tryd.prog 30 #[] w (NumPost LL w) := by
  have hfr := ((Fr.start w).any (ds 0) 33 16 (ds_size 0) (g := w.heap.size) rfl).row (ds 0) 33 (g := w.heap.size + 1) (by simp)
  rw [ds_zero] at hfr
  have HFR := Lib.hid hfr
  clear hfr
  go_enter Tryd.func30, Tryd.ntmps30
  go_wp2_with (fail)
  obtain ⟨TX, hTX⟩ : ∃ TX, TX = TXT := ⟨_, rfl⟩
  have hix := txt_index
  have hsz := TXT_size
  rw [← hTX] at hix hsz
  have hT : ({ data := #[50, 55, 55, 52, 50, 51, 49, 55, 55, 55, 55, 51, 55, 50, 51, 53, 51, 53, 51, 53, 56, 53, 49, 57, 51, 55, 55, 57, 48, 56, 56, 51, 54, 52, 56, 52, 57, 51] } : ByteArray) = TX := hTX.symm
  rw [hT]
  have HIX := Lib.hid hix
  clear hix hTX hT
  go_loopw [3] (fun i wr => ∃ j : Nat, j ≤ 38 ∧ i = .int .i64 j ∧ Fr w wr [(w.heap.size + 1, 33, ds (pre j))] [(w.heap.size, 33, 16)]) (fun i _ => 38 - (intOf i).toNat)
  case atStart => exact ⟨0, by omega, rfl, by rw [pre_start, ds_zero]; exact HFR.out⟩
  case round =>
    obtain ⟨j, hj, rfl, hF⟩ := hrel
    clear HFR
    by_cases hlt : j < 38
    · have hx := HIX.out j hlt
      have hd := dgt_lt j
      have hps := pre_step hlt
      have hpl := pre_le (j + 1)
      have HPS := Lib.hid hps
      have HPL := Lib.hid hpl
      have HF := Lib.hid hF
      clear hF hps hpl
      generalize dgt j = d at *
      go_wp2_with (fail)
      have e0 : (48 : Int) + (d : Int) - 48 = (d : Int) := by omega
      rw [e0]
      rw [decide_eq_true (show (j : Int) < 38 by omega)]
      have hst := @scale_start 65536 (pre j) 10 d hd
      have HST0 := Lib.hid hst
      have hN : 10 * pre j + d < 65536 ^ 16 := by rw [← HPS.out, d16]; have := HPL.out; unfold NT at this; omega
      have HN := Lib.hid hN
      clear hst hN
      go_loopw [5, 4] (fun i c' wq => ∃ k v c : Nat, k ≤ 16 ∧ i = .int .i64 k ∧ c' = .int .u64 c ∧ ScaleAt 65536 10 (pre j) d k v c ∧ Fr w wq [(w.heap.size + 1, 33, ds v)] [(w.heap.size, 33, 16)]) (fun i _ _ => 16 - (intOf i).toNat)
      case atStart => exact ⟨0, pre j, d, by omega, rfl, rfl, HST0.out, HF.out⟩
      case round =>
        obtain ⟨k, v, c, hk, rfl, rfl, hS, hF⟩ := hrel
        clear HF HST0
        by_cases hkt : k < 16
        · have hV := hF.get (g := w.heap.size + 1) (t := 33) (cs := ds v) (by simp)
          have cv : wr.cell? ⟨w.heap.size + 1, k, none⟩ = some (.int .u64 ((v / 65536 ^ k % 65536 : Nat) : Int)) := by rw [hV.cell, ds_get _ hkt]
          have hf := hV.frozen k
          have hc := hS.2.2
          have hx : v / 65536 ^ k % 65536 < 65536 := Nat.mod_lt _ (by omega)
          have hst := @scale_step 65536 10 (pre j) d k v c (by omega) (by omega) hS
          have hpt := @ds_put v k ((10 * (v / 65536 ^ k % 65536) + c) % 65536) hkt (Nat.mod_lt _ (by omega))
          have HST := Lib.hid hst
          have HPT := Lib.hid hpt
          have HF := Lib.hid hF
          clear hst hpt hS hF hV
          generalize v / 65536 ^ k % 65536 = x at *
          go_wp2
          go_roundw
          case rel =>
            have e1 : (10 * (x : Int) + c) % 65536 = (((10 * x + c) % 65536 : Nat) : Int) := by omega
            have e2 : (10 * (x : Int) + c) / 65536 = (((10 * x + c) / 65536 : Nat) : Int) := by omega
            rw [e1, e2]
            refine ⟨k + 1, _, _, by omega, by go_num, rfl, HST.out, ?_⟩
            rw [← HPT.out]
            exact HF.out.setHead (by simp <;> omega) (by simp <;> omega) _ _ (by omega)
          case measure => simp [intOf] <;> omega
        · obtain rfl : k = 16 := by omega
          have hp : pre j < 65536 ^ 16 := by rw [d16]; have := pre_le j; unfold NT at this; omega
          obtain rfl := scale_end hS hp (by omega) HN.out
          have HF := Lib.hid hF
          clear hF hS hp
          go_wp2_with (fail)
          go_roundw
          case rel => exact ⟨j + 1, by omega, by go_num, by rw [HPS.out]; exact HF.out⟩
          case measure => simp [intOf] <;> omega
    · obtain rfl : j = 38 := by omega
      rw [pre_end] at hF
      have hV := hF.get (g := w.heap.size + 1) (t := 33) (cs := ds NT) (by simp)
      have cv : wr.cell? ⟨w.heap.size + 1, 15, none⟩ = some (.int .u64 0) := by rw [hV.cell, order_top]
      have hf := hV.frozen 15
      have hF2 := hF.setHead (by simp) (by simp) 15 (.int .u64 4096) (by omega)
      rw [order_put] at hF2
      have kT := hF2.get (g := w.heap.size + 1) (t := 33) (cs := ds LL) (by simp)
      obtain ⟨old, hold, kR⟩ := hF2.old (g := w.heap.size) (t := 33) (n := 16) (by simp)
      have kS := kR.setRow_same (ds LL)
      have hB := below_setRow hF2.below (Nat.le_refl _) (ds LL)
      have hold' : old.size = (ds LL).size := by rw [hold, ds_size]
      have HS := Lib.hid kS
      have HB := Lib.hid hB
      have HO := Lib.hid hold'
      have KT := Lib.hid kT
      have KR := Lib.hid kR
      clear hF hF2 kS hB hold hold' hV kT kR
      go_wp2_with (first | (refine wpList_load_row rfl 33 (.tmp 1) rfl (w.heap.size + 1) rfl 33 (ds LL) (0, 0) _ KT.out Tryd.underlying33 rfl (info_ds LL) ?_) | (refine wpList_store_row rfl 33 (.tmp 0) (.tmp 38) rfl (w.heap.size) (ds LL) rfl rfl 33 old KR.out (info_ds LL) HO.out (ds_one _) ?_))
      exact bodyPost_ret (results_cell_row rfl _ _ (w.heap.size) 33 (ds LL) (0, 0) _ rfl HS.out Tryd.underlying33 rfl (info_ds LL)) rfl ⟨rfl, HB.out⟩
end Go.Proofs.YtcijaoihcckofaaDoor
namespace Go.Proofs.YtcijaoihcckofaaDoor
set_option linter.unusedVariables false
set_option linter.unusedSimpArgs false
set_option maxRecDepth 100000
open Go Go.RowKit
theorem eq_key_same {m n : Nat} (h : m = n) (p q : Operand) (W : World) : (do eqGuard .eql 23 p q (.agg (ks m)) (.agg (ks n)); binOp .eql 23 (.agg (ks m)) (.agg (ks n)) : Sem Value).run Tryd.prog W = .ok (.bool true) W := by
  subst h
  have hq := keys_same m W
  go_simp
theorem bd_key1 (W : World) : (Instr.build 23 [(0, .int .u8 1)].toArray).run Tryd.prog W = .ok (.agg (ks 1)) W := by kernel_rfl
theorem b_neq {x y : Nat} {b : Bool} (h : decide (x ≠ y) = b) (p q : Operand) (W : World) : (do eqGuard .neq 5 p q (.int .u8 (x : Int)) (.int .u8 (y : Int)); binOp .neq 5 (.int .u8 (x : Int)) (.int .u8 (y : Int)) : Sem Value).run Tryd.prog W = .ok (.bool b) W := by
  have e : ((x : Int) != (y : Int)) = b := by
    rw [← h]
    by_cases hy : x = y
    · subst hy; simp
    · have : ¬ (x : Int) = (y : Int) := by omega
      simp [hy, this]
  go_simp
theorem b_eql {x y : Nat} {b : Bool} (h : decide (x = y) = b) (p q : Operand) (W : World) : (do eqGuard .eql 5 p q (.int .u8 (x : Int)) (.int .u8 (y : Int)); binOp .eql 5 (.int .u8 (x : Int)) (.int .u8 (y : Int)) : Sem Value).run Tryd.prog W = .ok (.bool b) W := by
  have e : ((x : Int) == (y : Int)) = b := by
    rw [← h]
    by_cases hy : x = y
    · subst hy; simp
    · have : ¬ (x : Int) = (y : Int) := by omega
      simp [hy, this]
  go_simp
theorem ptY_nm {P : Pt} {s : L4 PP} {z : Nat} (h : RepS P s) (hz : z = P.y.val) (w : World) (hpg : PG w) : Calls Tryd.prog 18 #[.agg (sv s)] w (fun rr w' => rr = .returned (.agg (ks z)) ∧ Below w.heap.size w w') := by
  subst hz; exact ptY_any h w hpg
theorem al_ptZ (W : World) : (Instr.alloc 29 true (.tuple #[])).run Tryd.prog W = .ok (.pointer (some ⟨W.heap.size, 0, none⟩)) (W.alloc (.cells (sv PZ) 29)) := by kernel_rfl
theorem ofR_nm {n : Nat} {z : Fin PP} (hz : z = ofK n) (w : World) (hpg : PG w) (hn : n < 115792089237316195423570985008687907853269984665640564039457584007913129639936) : Calls Tryd.prog 32 #[.agg (ks n)] w (EPost z w) := ofR hz w hpg hn
theorem bytes_nm {x : Fin PP} {z : Nat} (hz : z = x.val) (w : World) (hpg : PG w) : Calls Tryd.prog 39 #[.agg (ev x)] w (KeyPost z w) := by rw [hz]; exact bytesF x w
end Go.Proofs.YtcijaoihcckofaaDoor
namespace Go.Proofs.YtcijaoihcckofaaDoor
set_option linter.unusedVariables false
set_option linter.unusedSimpArgs false
set_option maxRecDepth 100000
open Go Go.RowKit
attribute [local irreducible] ev sv ks fx dv tv cv ds ptSet ptAdd ptMul rpAdd rpMul rootC EE II TD BX BY BP Pt.add Pt.mul Pt.nil pbn LL lad PZ
section
attribute [local semireducible] BY
theorem base_row : ∀ k : Fin 32, k.val ≠ 0 → BY.val / 256 ^ k.val % 256 = 102 := by decide +kernel
theorem base_row0 : BY.val / 256 ^ 0 % 256 = 88 := by decide +kernel
end
section
attribute [local semireducible] BP
theorem BP_y1 : BP.y = BY := rfl
end
theorem BP_y : (BP.mul 1).y = BY := by rw [Pt.mul_one]; exact BP_y1
theorem LL_mul : BP.mul LL = Pt.nil := by
  have e : LL = LL' := LL_eq.trans rfl
  rw [e]; exact BP_order
theorem pbn_nil : pbn Pt.nil = 1 := by decide +kernel
set_option maxHeartbeats 8000000 in
theorem known6  (w : World) (hpg : PG w) : Calls Tryd.prog 14 #[] w (fun rr w' => rr = .returned (.bool true) ∧ Below w.heap.size w w') := by
  obtain ⟨z1, hz1⟩ : ∃ z : L4 PP, z = ptMul BE 1 256 := ⟨_, rfl⟩
  have rz1 : RepS (Pt.mul BP 1) z1 := by rw [hz1]; exact RepS.mul BE_rep (by omega)
  obtain ⟨z2, hz2⟩ : ∃ z : Nat, z = (Pt.mul BP 1).y.val := ⟨_, rfl⟩
  obtain ⟨z3, hz3⟩ : ∃ z : L4 PP, z = ptMul BE LL 256 := ⟨_, rfl⟩
  have rz3 : RepS (Pt.mul BP LL) z3 := by rw [hz3]; exact RepS.mul BE_rep LL_lt
  obtain ⟨z4, hz4⟩ : ∃ z : Nat, z = pbn Pt.nil := ⟨_, rfl⟩
  have lz4 : z4 < 115792089237316195423570985008687907853269984665640564039457584007913129639936 := by rw [hz4]; exact pbn_lt _
  have hx0 : z2 / 256 ^ 0 % 256 = 88 := by rw [hz2, BP_y]; exact base_row0
  have hnil : z4 = 1 := by rw [hz4]; exact pbn_nil
  refine calls_st (vs := []) 31 Tryd.func14 rfl Tryd.ntmps14 rfl (fun a W H => ?_)
  replace H : St 31 w a W [] [] := H
  refine wp_seq_k (fun K1 hK1 => ?_)
  refine rg_plain ?_
  refine pl_does (does_assign rfl rfl) rfl rfl rfl rfl H ?_
  clear H a W
  intro a W H
  refine pl_end ?_
  refine hK1 _ _ ?_
  clear hK1
  refine wp_seq_k (fun K2 hK2 => ?_)
  refine rg_plain ?_
  refine pl_new (news_of rfl al_ptZ) rfl rfl rfl rfl H ?_
  clear H a W
  intro g1 a W H
  refine pl_end ?_
  refine hK2 _ _ ?_
  clear hK2
  refine wp_seq_k (fun K3 hK3 => ?_)
  refine rg_plain ?_
  refine pl_does (does_build rfl rfl bd_key1) rfl rfl rfl rfl H ?_
  clear H a W
  intro a W H
  refine pl_does (does_call rfl ⟨_, Tryd.func29, by kernel_rfl⟩ rfl (fun W hb => base_pt hz1 W (hpg.ext hb))) rfl rfl rfl rfl H ?_
  clear H a W
  intro a W H
  refine pl_does (does_call rfl ⟨_, Tryd.func18, by kernel_rfl⟩ rfl (fun W hb => ptY_nm rz1 hz2 W (hpg.ext hb))) rfl rfl rfl rfl H ?_
  clear H a W
  intro a W H
  refine pl_new (news_of rfl al_key0) rfl rfl rfl rfl H ?_
  clear H a W
  intro g2 a W H
  refine pl_store rfl rfl rfl (k := 0) rfl (info_ks _) (by simp only [sv_size, ev_size, ks_size, fx_size, dv_size, ds_size, tv_size, cv_size] <;> rfl) (ks_one _) rfl rfl H ?_
  clear H a W
  intro a W H
  refine pl_end ?_
  replace H : St 31 w a W [(2, .pointer (some ⟨g2, 0, none⟩)), (1, .pointer (some ⟨g1, 0, none⟩)), (0, .bool false)] [(g2, 23, ks z2), (g1, 29, sv PZ)] := H.pick [0, 4, 5] [0, 1] rfl
  refine hK3 _ _ ?_
  clear hK3
  refine wp_seq_k (fun K4 hK4 => ?_)
  refine wp_seq_k (fun K5 hK5 => ?_)
  refine rg_plain ?_
  refine pl_does (does_assign rfl rfl) rfl rfl rfl rfl H ?_
  clear H a W
  intro a W H
  refine pl_end ?_
  refine hK5 _ _ ?_
  clear hK5
  refine wp_block ?_
  replace H : St 31 w a W [(3, .int .i64 ((1 : Nat) : Int)), (2, .pointer (some ⟨g2, 0, none⟩)), (1, .pointer (some ⟨g1, 0, none⟩))] [(g2, 23, ks z2), (g1, 29, sv PZ)] := H.pick [0, 1, 2] [0, 1] rfl
  refine wp_rounds 32 (fun k a W => 1 ≤ k ∧ St 31 w a W [(3, .int .i64 ((k : Nat) : Int)), (2, .pointer (some ⟨g2, 0, none⟩)), (1, .pointer (some ⟨g1, 0, none⟩))] [(g2, 23, ks z2), (g1, 29, sv PZ)]) (k0 := 1) ⟨by omega, H⟩ (by omega) ?_
  clear H a W
  rintro k a W hk ⟨hk1, H⟩
  by_cases hk2 : k < 32
  · have hx : z2 / 256 ^ k % 256 = 102 := by rw [hz2, BP_y]; exact base_row ⟨k, hk2⟩ (by show k ≠ 0; omega)
    refine wp_seq_k (fun K6 hK6 => ?_)
    refine wp_seq_k (fun K7 hK7 => ?_)
    refine rg_plain ?_
    refine pl_does (does_move rfl rfl) rfl rfl rfl rfl H ?_
    clear H a W
    intro a W H
    refine pl_does (does_binOp rfl rfl rfl (i_lss_yes (m := 32) hk2 _ _)) rfl rfl rfl rfl H ?_
    clear H a W
    intro a W H
    refine pl_end ?_
    refine hK7 _ _ ?_
    clear hK7
    refine wp_cond_true (H.ev rfl) ?_
    refine wp_skip ?_
    refine hK6 _ _ ?_
    clear hK6
    refine wp_seq_k (fun K8 hK8 => ?_)
    refine wp_block ?_
    refine wp_seq_k (fun K9 hK9 => ?_)
    refine rg_plain ?_
    refine pl_does (does_move rfl rfl) rfl rfl rfl rfl H ?_
    clear H a W
    intro a W H
    refine pl_does (does_indexAddr rfl rfl rfl (ia_keyn (j := k) hk2)) rfl rfl rfl rfl H ?_
    clear H a W
    intro a W H
    refine pl_does (does_loadAt (v := .int .u8 ((102 : Nat) : Int)) rfl rfl (k := 0) rfl (ld_keyn hk2 hx)) rfl rfl rfl rfl H ?_
    clear H a W
    intro a W H
    refine pl_does (does_binOp rfl rfl rfl (b_neq (x := 102) (y := 102) (b := false) (by decide) _ _)) rfl rfl rfl rfl H ?_
    clear H a W
    intro a W H
    refine pl_end ?_
    refine hK9 _ _ ?_
    clear hK9
    refine wp_cond_false (H.ev rfl) ?_
    refine wp_skip ?_
    refine blk_normal ?_
    refine hK8 _ _ ?_
    clear hK8
    refine rg_plain ?_
    refine pl_does (does_move rfl rfl) rfl rfl rfl rfl H ?_
    clear H a W
    intro a W H
    refine pl_does (does_binOp rfl rfl rfl (i_inc (by omega) _ _)) rfl rfl rfl rfl H ?_
    clear H a W
    intro a W H
    replace H : St 31 w a W [(10, .int .i64 ((k + 1 : Nat) : Int)), (9, .int .i64 ((k : Nat) : Int)), (14, .bool false), (13, .int .u8 ((102 : Nat) : Int)), (12, .pointer (some ⟨g2, k, none⟩)), (11, .int .i64 ((k : Nat) : Int)), (8, .bool true), (7, .int .i64 ((k : Nat) : Int)), (2, .pointer (some ⟨g2, 0, none⟩)), (1, .pointer (some ⟨g1, 0, none⟩))] [(g2, 23, ks z2), (g1, 29, sv PZ)] := H.pick [0, 1, 2, 3, 4, 5, 6, 7, 9, 10] [0, 1] rfl
    refine pl_does (does_assign rfl rfl) rfl rfl rfl rfl H ?_
    clear H a W
    intro a W H
    refine pl_end ?_
    refine ⟨k + 1, by omega, by omega, by omega, ?_⟩
    show St 31 w a W [(3, .int .i64 ((k + 1 : Nat) : Int)), (2, .pointer (some ⟨g2, 0, none⟩)), (1, .pointer (some ⟨g1, 0, none⟩))] [(g2, 23, ks z2), (g1, 29, sv PZ)]
    exact H.pick [0, 9, 10] [0, 1] rfl
  · obtain rfl : k = 32 := by omega
    refine wp_seq_k (fun K10 hK10 => ?_)
    refine wp_seq_k (fun K11 hK11 => ?_)
    refine rg_plain ?_
    refine pl_does (does_move rfl rfl) rfl rfl rfl rfl H ?_
    clear H a W
    intro a W H
    refine pl_does (does_binOp rfl rfl rfl (i_lss_no (m := 32) (by omega) _ _)) rfl rfl rfl rfl H ?_
    clear H a W
    intro a W H
    refine pl_end ?_
    replace H : St 31 w a W [(8, .bool false), (3, .int .i64 ((32 : Nat) : Int)), (2, .pointer (some ⟨g2, 0, none⟩)), (1, .pointer (some ⟨g1, 0, none⟩))] [(g2, 23, ks z2), (g1, 29, sv PZ)] := H.pick [0, 2, 3, 4] [0, 1] rfl
    refine hK11 _ _ ?_
    clear hK11
    refine wp_cond_false (H.ev rfl) ?_
    refine wp_exit ?_
    repeat (with_reducible refine then_exit ?_)
    refine blk_exit ?_
    refine hK4 _ _ ?_
    clear hK4
    refine wp_seq_k (fun K12 hK12 => ?_)
    refine drawnS [.val 15 (.pointer (some ⟨g2, 0, none⟩)) [] [], .val 16 (.int .u8 ((88 : Nat) : Int)) [0] [0], .val 17 (.bool true) [1] [], .val 18 (.bool true) [2] [], .val 19 (.agg (ds LL)) [3] [], .val 20 (.agg (ks LL)) [4, 3] [], .val 21 (.agg (sv z3)) [5, 3] [], .val 22 (.agg (sv PZ)) [3] [1], .val 23 (.bool true) [6, 7, 3] [], .val 24 (.bool true) [3, 8] [], .val 25 (.bool true) [9] [], .val 26 (.agg (sv PZ)) [10] [1], .val 27 (.agg (ks z4)) [11, 10] [], .val 28 (.agg (ks 1)) [10] [], .val 29 (.bool true) [12, 13, 10] [], .val 30 (.bool true) [10, 14] [], .val 0 (.bool true) [15] []] [0, 1, 2, 4, 8, 24, 40, 8, 200, 264, 768, 1024, 3072, 1024, 13312, 17408, 65535] (by kernel_rfl) (by kernel_rfl) (by kernel_rfl) H ⟨⟨does_indexAddr rfl rfl rfl (ia_keyn (j := 0) (by omega)), wanted_none rfl⟩, ⟨does_loadAt (v := .int .u8 ((88 : Nat) : Int)) rfl rfl (k := 0) rfl (ld_keyn (j := 0) (by omega) hx0), wanted_none rfl⟩, ⟨does_binOp rfl rfl rfl (b_eql (x := 88) (y := 88) (b := true) (by decide) _ _), wanted_none rfl⟩, ⟨does_move rfl rfl, wanted_none rfl⟩, ⟨does_call rfl ⟨_, Tryd.func30, by kernel_rfl⟩ rfl (fun W hb => rorder_any W), wanted_some rfl rfl rfl rfl rfl⟩, ⟨does_call rfl ⟨_, Tryd.func17, by kernel_rfl⟩ rfl (fun W hb => rbytes_any LL W LL_lt), wanted_some rfl rfl rfl rfl rfl⟩, ⟨does_call rfl ⟨_, Tryd.func29, by kernel_rfl⟩ rfl (fun W hb => base_pt hz3 W (hpg.ext hb)), wanted_some rfl rfl rfl rfl rfl⟩, ⟨does_load rfl rfl (k := 0) rfl Tryd.underlying29 rfl (info_pt _), wanted_some rfl rfl rfl rfl rfl⟩, ⟨does_call rfl ⟨_, Tryd.func25, by kernel_rfl⟩ rfl (fun W hb => equal_pt rz3 PZ_rep (decide_eq_true LL_mul) W (hpg.ext hb)), wanted_some rfl rfl rfl rfl rfl⟩, ⟨does_pick rfl rfl (fun _ => rfl) (fun hb => by cases hb), wanted_none rfl⟩, ⟨does_move rfl rfl, wanted_none rfl⟩, ⟨does_load rfl rfl (k := 0) rfl Tryd.underlying29 rfl (info_pt _), wanted_some rfl rfl rfl rfl rfl⟩, ⟨does_call rfl ⟨_, Tryd.func13, by kernel_rfl⟩ rfl (fun W hb => bytes_pt PZ_rep hz4 W (hpg.ext hb)), wanted_some rfl rfl rfl rfl rfl⟩, ⟨does_build rfl rfl bd_key1, wanted_some rfl rfl rfl rfl rfl⟩, ⟨does_binOp rfl rfl rfl (eq_key_same hnil _ _), wanted_some rfl rfl rfl rfl rfl⟩, ⟨does_pick rfl rfl (fun _ => rfl) (fun hb => by cases hb), wanted_none rfl⟩, ⟨does_assign rfl rfl, wanted_none rfl⟩, trivial⟩ ?_
    clear H a W
    intro G3 a W H
    replace H : St 31 w a W [(15, .pointer (some ⟨g2, 0, none⟩)), (16, .int .u8 ((88 : Nat) : Int)), (17, .bool true), (18, .bool true), (19, .agg (ds LL)), (20, .agg (ks LL)), (21, .agg (sv z3)), (22, .agg (sv PZ)), (23, .bool true), (24, .bool true), (25, .bool true), (26, .agg (sv PZ)), (27, .agg (ks z4)), (28, .agg (ks 1)), (29, .bool true), (30, .bool true), (0, .bool true), (8, .bool false), (3, .int .i64 ((32 : Nat) : Int)), (2, .pointer (some ⟨g2, 0, none⟩)), (1, .pointer (some ⟨g1, 0, none⟩))] [(g2, 23, ks z2), (g1, 29, sv PZ)] := H
    replace H : St 31 w a W [(0, .bool true)] [] := H.pick [16] [] rfl
    refine hK12 _ _ ?_
    clear hK12
    refine wp_ret ?_
    repeat (first | (with_reducible refine then_ret ?_) | (with_reducible refine blk_ret ?_))
    refine end_tmp (p := 0) rfl rfl H (fun hb => ?_)
    exact ⟨rfl, hb⟩
end Go.Proofs.YtcijaoihcckofaaDoor
