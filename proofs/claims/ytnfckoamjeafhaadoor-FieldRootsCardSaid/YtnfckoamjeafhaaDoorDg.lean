/- Digits: one in the place of another; what is scaled, and taken off, digit by digit. -/
import Derived.Test.YtnfckoamjeafhaaDoorFb
namespace Go.Proofs.YtnfckoamjeafhaaDoor
set_option linter.unusedVariables false
set_option linter.unusedSimpArgs false

/-- A digit is put in the place of another one. -/
theorem digit_put {b n m k x : Nat} (hb : 0 < b) (hx : x < b) (h : m + b ^ k * (n / b ^ k % b) = n + b ^ k * x) (j : Nat) : m / b ^ j % b = if j = k then x else n / b ^ j % b := by
  have hp : 0 < b ^ k := Nat.pow_pos hb
  have hn : n = n % b ^ k + b ^ k * (n / b ^ k % b + b * (n / b ^ (k + 1))) := by
    have h1 := Nat.mod_add_div n (b ^ k)
    have h2 := Nat.mod_add_div (n / b ^ k) b
    rw [Nat.div_div_eq_div_mul, ← Nat.pow_succ] at h2
    rw [h2, h1]
  have hm : m = n % b ^ k + b ^ k * (x + b * (n / b ^ (k + 1))) := by
    generalize n / b ^ (k + 1) = hi at *
    generalize n / b ^ k % b = d at *
    rw [Nat.mul_add] at hn ⊢
    omega
  have hlo : n % b ^ k < b ^ k := Nat.mod_lt _ hp
  have hdiv : m / b ^ k = x + b * (n / b ^ (k + 1)) := by
    rw [hm, Nat.add_mul_div_left _ _ hp, Nat.div_eq_of_lt hlo, Nat.zero_add]
  have hmod : m % b ^ k = n % b ^ k := by
    rw [hm, Nat.add_mul_mod_self_left, Nat.mod_mod]
  by_cases hj : j = k
  · subst hj
    rw [if_pos rfl, hdiv, Nat.add_mul_mod_self_left, Nat.mod_eq_of_lt hx]
  · rw [if_neg hj]
    by_cases hlt : j < k
    · have h1 := dig_mod b m k j hb
      have h2 := dig_mod b n k j hb
      rw [if_pos hlt] at h1 h2
      rw [← h1, ← h2, hmod]
    · obtain ⟨d, rfl⟩ : ∃ d, j = k + 1 + d := ⟨j - k - 1, by omega⟩
      have h1 : m / b ^ (k + 1) = n / b ^ (k + 1) := by
        rw [Nat.pow_succ, ← Nat.div_div_eq_div_mul, hdiv, Nat.add_mul_div_left _ _ hb, Nat.div_eq_of_lt hx, Nat.zero_add, Nat.pow_succ]
      rw [Nat.pow_add, ← Nat.div_div_eq_div_mul, ← Nat.div_div_eq_div_mul, h1]
theorem digit_above {b n m k x : Nat} (hb : 0 < b) (hx : x < b) (h : m + b ^ k * (n / b ^ k % b) = n + b ^ k * x) : m / b ^ (k + 1) = n / b ^ (k + 1) := by
  have hp : 0 < b ^ k := Nat.pow_pos hb
  have h1 := Nat.mod_add_div n (b ^ k)
  have h2 := Nat.mod_add_div (n / b ^ k) b
  rw [Nat.div_div_eq_div_mul, ← Nat.pow_succ] at h2
  have hlo : n % b ^ k < b ^ k := Nat.mod_lt _ hp
  have hm : m = n % b ^ k + b ^ k * (x + b * (n / b ^ (k + 1))) := by
    generalize n / b ^ (k + 1) = hi at *
    generalize n / b ^ k % b = d at *
    rw [← h2] at h1
    rw [Nat.mul_add] at h1 ⊢
    omega
  have hdiv : m / b ^ k = x + b * (n / b ^ (k + 1)) := by
    rw [hm, Nat.add_mul_div_left _ _ hp, Nat.div_eq_of_lt hlo, Nat.zero_add]
  rw [Nat.pow_succ, ← Nat.div_div_eq_div_mul, hdiv, Nat.add_mul_div_left _ _ hb, Nat.div_eq_of_lt hx, Nat.zero_add, Nat.pow_succ]
theorem digit_le {b : Nat} (n k : Nat) : b ^ k * (n / b ^ k % b) ≤ n :=
  Nat.le_trans (Nat.mul_le_mul_left _ (Nat.mod_le _ _)) (by rw [Nat.mul_comm]; exact Nat.div_mul_le_self _ _)
/-- n with x in the place of digit k. -/
def putd (b n k x : Nat) : Nat := n - b ^ k * (n / b ^ k % b) + b ^ k * x
theorem putd_eq (b n k x : Nat) : putd b n k x + b ^ k * (n / b ^ k % b) = n + b ^ k * x := by
  have := digit_le (b := b) n k
  unfold putd
  generalize b ^ k * (n / b ^ k % b) = X at *
  generalize b ^ k * x = Y at *
  omega

/-! Scaling by q, digit by digit. -/
def ScaleAt (b q a c0 k v c : Nat) : Prop := v / b ^ k = a / b ^ k ∧ v + b ^ k * c = a + (q - 1) * (a % b ^ k) + c0 ∧ c < q
theorem scale_start (b a : Nat) {q c0 : Nat} (h : c0 < q) : ScaleAt b q a c0 0 a c0 := by
  unfold ScaleAt
  rw [Nat.pow_zero, Nat.mod_one]
  omega
theorem scale_step {b q a c0 k v c : Nat} (hb : 0 < b) (hq : 0 < q) (h : ScaleAt b q a c0 k v c) :
    ScaleAt b q a c0 (k + 1) (putd b v k ((q * (v / b ^ k % b) + c) % b)) ((q * (v / b ^ k % b) + c) / b) := by
  obtain ⟨h1, h2, h3⟩ := h
  have hs : (q * (v / b ^ k % b) + c) % b < b := Nat.mod_lt _ hb
  have hp := putd_eq b v k ((q * (v / b ^ k % b) + c) % b)
  have hx : (q * (v / b ^ k % b) + c) / b < q := by
    rw [Nat.div_lt_iff_lt_mul hb]
    have : v / b ^ k % b ≤ b - 1 := by have := Nat.mod_lt (v / b ^ k) hb; omega
    have h5 := Nat.mul_le_mul_left q this
    have h6 : q * (b - 1) + q = q * b := by
      rw [← Nat.mul_succ]
      congr 1
      omega
    omega
  refine ⟨?_, ?_, hx⟩
  · rw [digit_above hb hs hp, Nat.pow_succ, ← Nat.div_div_eq_div_mul, ← Nat.div_div_eq_div_mul, h1]
  · rw [Nat.mod_pow_succ, Nat.pow_succ]
    rw [h1] at hp ⊢
    have e := Nat.mod_add_div (q * (a / b ^ k % b) + c) b
    generalize (q * (a / b ^ k % b) + c) % b = s at *
    generalize (q * (a / b ^ k % b) + c) / b = j at *
    generalize putd b v k s = v' at *
    generalize a / b ^ k % b = x at *
    generalize b ^ k = P at *
    have e2 := congrArg (P * ·) e
    simp only [Nat.mul_add] at e2
    rw [← Nat.mul_assoc] at e2
    obtain ⟨q', rfl⟩ : ∃ q', q = q' + 1 := ⟨q - 1, by omega⟩
    rw [Nat.add_sub_cancel, Nat.mul_add]
    rw [Nat.add_sub_cancel] at h2
    have e3 : P * ((q' + 1) * x) = q' * (P * x) + P * x := by rw [Nat.add_mul, Nat.mul_add, Nat.one_mul]; congr 1; ac_rfl
    omega
theorem scale_end {b q a c0 n v c : Nat} (h : ScaleAt b q a c0 n v c) (ha : a < b ^ n) (hq : 0 < q) (hl : q * a + c0 < b ^ n) : v = q * a + c0 := by
  obtain ⟨h1, h2, h3⟩ := h
  rw [Nat.mod_eq_of_lt ha] at h2
  obtain ⟨q', rfl⟩ : ∃ q', q = q' + 1 := ⟨q - 1, by omega⟩
  rw [Nat.add_sub_cancel] at h2
  rw [Nat.add_mul, Nat.one_mul] at hl ⊢
  rcases Nat.eq_zero_or_pos c with hc | hc
  · subst hc
    omega
  · have := Nat.mul_le_mul_left (b ^ n) hc
    omega

/-! Taking off, digit by digit. -/
def TakeAt (b a y k v c : Nat) : Prop := v / b ^ k = a / b ^ k ∧ v + y % b ^ k = a + b ^ k * c ∧ c ≤ 1
theorem take_start (b a y : Nat) : TakeAt b a y 0 a 0 := by
  unfold TakeAt
  rw [Nat.pow_zero, Nat.mod_one]
  omega
theorem take_step {b a y k v c n : Nat} (hb : 0 < b) (h : TakeAt b a y k v c) (hn : n + y / b ^ k % b + c = v / b ^ k % b + b) :
    TakeAt b a y (k + 1) (putd b v k (n % b)) (1 - n / b) := by
  obtain ⟨h1, h2, h3⟩ := h
  have hs : n % b < b := Nat.mod_lt _ hb
  have hp := putd_eq b v k (n % b)
  refine ⟨?_, ?_, Nat.sub_le _ _⟩
  · rw [digit_above hb hs hp, Nat.pow_succ, ← Nat.div_div_eq_div_mul, ← Nat.div_div_eq_div_mul, h1]
  · have hj : n / b < 2 := by
      rw [Nat.div_lt_iff_lt_mul hb]
      have hx := Nat.mod_lt (v / b ^ k) hb
      generalize v / b ^ k % b = x at *
      generalize y / b ^ k % b = z at *
      omega
    rw [Nat.mod_pow_succ, Nat.pow_succ]
    rw [h1] at hp hn
    have e := Nat.mod_add_div n b
    have hx := Nat.mod_lt (a / b ^ k) hb
    have hy := Nat.mod_lt (y / b ^ k) hb
    generalize hm : n % b = s at *
    generalize hd : n / b = j at *
    generalize putd b v k s = v' at *
    generalize a / b ^ k % b = x at *
    generalize y / b ^ k % b = z at *
    generalize b ^ k = P at *
    have hjj : j = 0 ∨ j = 1 := by omega
    have e2 : P * (s + b * j + z + c) = P * (x + b) := by rw [e, hn]
    simp only [Nat.mul_add] at e2
    rcases hjj with rfl | rfl
    · rw [Nat.mul_zero, Nat.mul_zero] at e2
      rw [Nat.sub_zero, Nat.mul_one]
      omega
    · rw [Nat.mul_one] at e2
      rw [Nat.sub_self, Nat.mul_zero]
      omega
theorem take_end {b a y n v c : Nat} (h : TakeAt b a y n v c) (ha : a < b ^ n) (hy : y ≤ a) : v = a - y := by
  obtain ⟨h1, h2, h3⟩ := h
  rw [Nat.mod_eq_of_lt (show y < b ^ n by omega)] at h2
  rw [Nat.div_eq_of_lt ha] at h1
  have hp : 0 < b ^ n := by omega
  have hv : v < b ^ n := by
    have := Nat.div_add_mod v (b ^ n)
    rw [h1, Nat.mul_zero] at this
    have := Nat.mod_lt v hp
    omega
  have : c = 0 ∨ c = 1 := by omega
  rcases this with rfl | rfl
  · omega
  · omega
end Go.Proofs.YtnfckoamjeafhaaDoor
