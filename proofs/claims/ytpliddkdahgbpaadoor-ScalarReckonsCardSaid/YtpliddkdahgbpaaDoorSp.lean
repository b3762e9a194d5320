/- Layer 3's arithmetic: numbers of words; sums, differences and products of them, word by word. -/
import Derived.Test.YtpliddkdahgbpaaDoorDg
namespace Go.Proofs.YtpliddkdahgbpaaDoor
set_option linter.unusedVariables false
set_option linter.unusedSimpArgs false
open Go.RowKit

/-- c words of a number, the lowest first. -/
def wl (c n : Nat) : List Nat := (List.range c).map fun i => wj n i
theorem wl_len (c n : Nat) : (wl c n).length = c := by simp [wl]
theorem wl_get (c n : Nat) {i : Nat} (h : i < c) : (wl c n)[i]? = some (wj n i) := by simp [wl, h]
/-- Their cells. -/
def ws (c n : Nat) : Array Value := ncs .u64 (wl c n)
theorem ws_size (c n : Nat) : (ws c n).size = c := by rw [ws, ncs_size, wl_len]
theorem ws_get (c n : Nat) {i : Nat} (h : i < c) : (ws c n)[i]? = some (.int .u64 (wj n i : Int)) := by rw [ws, ncs_get, wl_get c n h]; rfl
theorem ws_one (c n : Nat) : (ws c n).all (·.oneCell') = true := ncs_one _ _
theorem es_ws (n : Nat) : es n = ws 4 n := by rw [es_wj]; rfl
theorem wj_lt (n j : Nat) : wj n j < 18446744073709551616 := Nat.mod_lt _ (by omega)

theorem ws_put {c n m k x : Nat} (hk : k < c) (hx : x < 18446744073709551616) (h : m + 18446744073709551616 ^ k * wj n k = n + 18446744073709551616 ^ k * x) :
    (ws c n).setIfInBounds k (.int .u64 (x : Int)) = ws c m := by
  rw [ws, ncs_set, ws]
  congr 1
  apply List.ext_getElem?
  intro j
  rw [List.getElem?_set]
  by_cases hj : j < c
  · have hd := digit_put (by omega) hx h j
    rw [wl_get c m hj]
    unfold wj at hd ⊢
    rw [hd]
    by_cases e : k = j
    · subst e
      rw [if_pos rfl, if_pos rfl, wl_len, if_pos hk]
    · rw [if_neg e, if_neg (fun h => e h.symm), wl_get c n hj]
      rfl
  · have : k ≠ j := by omega
    rw [if_neg this, List.getElem?_eq_none (by rw [wl_len]; omega), List.getElem?_eq_none (by rw [wl_len]; omega)]
theorem ws_low (c n : Nat) : ws c (n % 18446744073709551616 ^ c) = ws c n := by
  rw [ws, ws]
  congr 1
  apply List.ext_getElem?
  intro j
  by_cases hj : j < c
  · rw [wl_get _ _ hj, wl_get _ _ hj]
    unfold wj
    rw [dig_mod _ _ _ _ (by omega), if_pos hj]
  · rw [List.getElem?_eq_none (by rw [wl_len]; omega), List.getElem?_eq_none (by rw [wl_len]; omega)]
theorem wj_high {n k : Nat} (h : n < 18446744073709551616 ^ k) : wj n k = 0 := by
  unfold wj
  rw [Nat.div_eq_of_lt h]

/-! Differences. -/
/-- m and c are the difference of the low k words, and what was borrowed. -/
def SubAt (a b k m c : Nat) : Prop := m + b % 18446744073709551616 ^ k = a % 18446744073709551616 ^ k + 18446744073709551616 ^ k * c ∧ m < 18446744073709551616 ^ k ∧ c ≤ 1
theorem sub_start (a b : Nat) : SubAt a b 0 0 0 := by
  unfold SubAt
  rw [Nat.pow_zero, Nat.mod_one, Nat.mod_one]
  omega
theorem sub_step {a b k m c s j : Nat} (h : SubAt a b k m c) (e : s + wj b k + c = wj a k + 18446744073709551616 * j) (hs : s < 18446744073709551616) (hj : j ≤ 1) :
    SubAt a b (k + 1) (m + 18446744073709551616 ^ k * s) j := by
  obtain ⟨h1, h2, h3⟩ := h
  unfold wj at e
  unfold SubAt
  rw [Nat.mod_pow_succ, Nat.mod_pow_succ, Nat.pow_succ]
  generalize a / 18446744073709551616 ^ k % 18446744073709551616 = x at *
  generalize b / 18446744073709551616 ^ k % 18446744073709551616 = y at *
  generalize 18446744073709551616 ^ k = P at *
  have e2 := congrArg (P * ·) e
  simp only [Nat.mul_add] at e2
  rw [← Nat.mul_assoc] at e2
  have e3 : P * s ≤ P * 18446744073709551615 := Nat.mul_le_mul_left _ (by omega)
  omega
theorem sub_put {a b k m c s : Nat} (h : SubAt a b k m c) (hk : k < 4) (hs : s < 18446744073709551616) : (ws 4 m).setIfInBounds k (.int .u64 (s : Int)) = ws 4 (m + 18446744073709551616 ^ k * s) :=
  ws_put hk hs (by rw [wj_high h.2.1, Nat.mul_zero, Nat.add_zero])
theorem sub_end {a b m c : Nat} (h : SubAt a b 4 m c) (ha : a < 115792089237316195423570985008687907853269984665640564039457584007913129639936) (hb : b < 115792089237316195423570985008687907853269984665640564039457584007913129639936) :
    m + b = a + 115792089237316195423570985008687907853269984665640564039457584007913129639936 * c ∧ m < 115792089237316195423570985008687907853269984665640564039457584007913129639936 ∧ c ≤ 1 := by
  obtain ⟨h1, h2, h3⟩ := h
  have e : 18446744073709551616 ^ 4 = 115792089237316195423570985008687907853269984665640564039457584007913129639936 := by decide
  rw [e] at h1 h2
  rw [Nat.mod_eq_of_lt ha, Nat.mod_eq_of_lt hb] at h1
  exact ⟨h1, h2, h3⟩

/-! Doubles. -/
def DblAt (a c0 k v c : Nat) : Prop := v / 18446744073709551616 ^ k = a / 18446744073709551616 ^ k ∧ v + 18446744073709551616 ^ k * c = a + a % 18446744073709551616 ^ k + c0 ∧ c ≤ 1
theorem dbl_start (a : Nat) {c0 : Nat} (h : c0 ≤ 1) : DblAt a c0 0 a c0 := by
  unfold DblAt
  rw [Nat.pow_zero, Nat.mod_one]
  omega
theorem dbl_same {a c0 k v c : Nat} (h : DblAt a c0 k v c) : wj v k = wj a k := by
  unfold wj
  rw [h.1]
theorem dbl_step {a c0 k v c s j : Nat} (h : DblAt a c0 k v c) (e : s + 18446744073709551616 * j = wj v k + wj v k + c) (hs : s < 18446744073709551616) (hj : j ≤ 1) :
    ∃ v', v' + 18446744073709551616 ^ k * wj v k = v + 18446744073709551616 ^ k * s ∧ DblAt a c0 (k + 1) v' j := by
  have hd := dbl_same h
  obtain ⟨h1, h2, h3⟩ := h
  have hle : 18446744073709551616 ^ k * wj v k ≤ v := by
    have h4 := Nat.mod_add_div v (18446744073709551616 ^ k)
    have h5 := Nat.mul_le_mul_left (18446744073709551616 ^ k) (Nat.mod_le (v / 18446744073709551616 ^ k) 18446744073709551616)
    unfold wj
    omega
  refine ⟨v - 18446744073709551616 ^ k * wj v k + 18446744073709551616 ^ k * s, by omega, ?_, ?_, hj⟩
  · rw [digit_above (n := v) (by omega) hs (by unfold wj at hle ⊢; omega)]
    rw [Nat.pow_succ, ← Nat.div_div_eq_div_mul, ← Nat.div_div_eq_div_mul, h1]
  · rw [Nat.mod_pow_succ, Nat.pow_succ]
    rw [hd] at e hle ⊢
    unfold wj at e hle ⊢
    generalize a / 18446744073709551616 ^ k % 18446744073709551616 = x at *
    generalize 18446744073709551616 ^ k = P at *
    have e2 := congrArg (P * ·) e
    simp only [Nat.mul_add] at e2
    rw [← Nat.mul_assoc] at e2
    omega
theorem dbl_end {a c0 v c : Nat} (h : DblAt a c0 4 v c) (ha : 2 * a + c0 < 115792089237316195423570985008687907853269984665640564039457584007913129639936) : v = 2 * a + c0 := by
  obtain ⟨h1, h2, h3⟩ := h
  have e : 18446744073709551616 ^ 4 = 115792089237316195423570985008687907853269984665640564039457584007913129639936 := by decide
  rw [e] at h1 h2
  rw [Nat.mod_eq_of_lt (by omega)] at h2
  omega

/-! Bits. -/
theorem bit_of (n i : Nat) : wj n (i / 64) / 2 ^ (i % 64) % 2 = n / 2 ^ i % 2 := by
  unfold wj
  have h1 : n / 2 ^ i = n / 18446744073709551616 ^ (i / 64) / 2 ^ (i % 64) := by
    rw [show (18446744073709551616 : Nat) = 2 ^ 64 by decide, ← Nat.pow_mul, Nat.div_div_eq_div_mul, ← Nat.pow_add, Nat.div_add_mod]
  rw [h1]
  generalize n / 18446744073709551616 ^ (i / 64) = x
  have h := dig_mod 2 x 64 (i % 64) (by omega)
  rw [if_pos (by omega)] at h
  exact h

/-! Products. -/
/-- Behind j words of row i: what stands in the words, and what is over. -/
def MulRow (a b c i j n o : Nat) : Prop :=
  n + 18446744073709551616 ^ (i + j) * o = c + a % 18446744073709551616 ^ i * b + 18446744073709551616 ^ i * wj a i * (b % 18446744073709551616 ^ j) ∧ n < 18446744073709551616 ^ (i + 4) ∧ o < 18446744073709551616
def MulAtI (a b c i n : Nat) : Prop := n = c + a % 18446744073709551616 ^ i * b
theorem mul_below {a b c i n : Nat} (h : MulAtI a b c i n) (hb : b < 18446744073709551616 ^ 4) (hc : c < 18446744073709551616 ^ 4) : n < 18446744073709551616 ^ (i + 4) := by
  unfold MulAtI at h
  have h1 : a % 18446744073709551616 ^ i < 18446744073709551616 ^ i := Nat.mod_lt _ (Nat.pow_pos (by omega))
  rw [Nat.pow_add]
  generalize a % 18446744073709551616 ^ i = x at *
  generalize 18446744073709551616 ^ i = P at *
  generalize 18446744073709551616 ^ 4 = Q at *
  have h2 : (x + 1) * Q ≤ P * Q := Nat.mul_le_mul_right _ h1
  have h3 : x * b ≤ x * Q := Nat.mul_le_mul_left _ (by omega)
  rw [Nat.add_mul] at h2
  omega
theorem mulrow_start {a b c i n : Nat} (h : MulAtI a b c i n) (hn : n < 18446744073709551616 ^ (i + 4)) : MulRow a b c i 0 n 0 := by
  unfold MulRow MulAtI at *
  rw [Nat.pow_zero, Nat.mod_one]
  refine ⟨by omega, hn, by omega⟩
theorem mulrow_step {a b c i j n o hi lo : Nat} (hj : j < 4) (h : MulRow a b c i j n o) (e : MulAddAt (wj a i) (wj b j) (wj n (i + j)) o hi lo) :
    ∃ n', n' + 18446744073709551616 ^ (i + j) * wj n (i + j) = n + 18446744073709551616 ^ (i + j) * lo ∧ MulRow a b c i (j + 1) n' hi := by
  obtain ⟨h1, h2, h3⟩ := h
  obtain ⟨e1, e2, e3⟩ := e
  have hle : 18446744073709551616 ^ (i + j) * wj n (i + j) ≤ n := by
    have h4 := Nat.mod_add_div n (18446744073709551616 ^ (i + j))
    have h5 := Nat.mul_le_mul_left (18446744073709551616 ^ (i + j)) (Nat.mod_le (n / 18446744073709551616 ^ (i + j)) 18446744073709551616)
    unfold wj
    omega
  have hnew : n - 18446744073709551616 ^ (i + j) * wj n (i + j) + 18446744073709551616 ^ (i + j) * lo + 18446744073709551616 ^ (i + j) * wj n (i + j) = n + 18446744073709551616 ^ (i + j) * lo := by omega
  refine ⟨n - 18446744073709551616 ^ (i + j) * wj n (i + j) + 18446744073709551616 ^ (i + j) * lo, hnew, ?_, ?_, e3⟩
  · rw [show i + (j + 1) = i + j + 1 by omega, Nat.mod_pow_succ, Nat.pow_succ, Nat.mul_add]
    have e4 := congrArg (18446744073709551616 ^ (i + j) * ·) e1
    simp only [Nat.mul_add] at e4
    rw [← Nat.mul_assoc, Nat.mul_right_comm] at e4
    have e5 : 18446744073709551616 ^ i * wj a i * (18446744073709551616 ^ j * (b / 18446744073709551616 ^ j % 18446744073709551616)) = 18446744073709551616 ^ (i + j) * (wj a i * wj b j) := by
      rw [Nat.pow_add]
      show _ * _ * (_ * wj b j) = _
      ac_rfl
    rw [e5]
    generalize 18446744073709551616 ^ (i + j) * (wj a i * wj b j) = X at *
    generalize 18446744073709551616 ^ (i + j) * wj n (i + j) = Y at *
    generalize 18446744073709551616 ^ (i + j) * lo = Z at *
    generalize 18446744073709551616 ^ i * wj a i * (b % 18446744073709551616 ^ j) = U at *
    generalize 18446744073709551616 ^ (i + j) * o = V at *
    have e6 : 18446744073709551616 ^ (i + j) * 18446744073709551616 * hi = 18446744073709551616 ^ (i + j) * hi * 18446744073709551616 := by ac_rfl
    rw [e6]
    omega
  · generalize n - 18446744073709551616 ^ (i + j) * wj n (i + j) + 18446744073709551616 ^ (i + j) * lo = m at *
    have hd := digit_above (n := n) (m := m) (k := i + j) (by omega) e2 (by unfold wj at hnew; exact hnew)
    obtain ⟨d, hd4⟩ : ∃ d, i + 4 = i + j + 1 + d := ⟨3 - j, by omega⟩
    rw [hd4, Nat.pow_add] at h2 ⊢
    have hp : 0 < 18446744073709551616 ^ (i + j + 1) := Nat.pow_pos (by omega)
    rw [Nat.mul_comm] at h2 ⊢
    rw [← Nat.div_lt_iff_lt_mul hp] at h2 ⊢
    rw [hd]
    exact h2
theorem mulrow_end {a b c i n o : Nat} (hb : b < 18446744073709551616 ^ 4) (h : MulRow a b c i 4 n o) :
    ∃ n', n' + 18446744073709551616 ^ (i + 4) * wj n (i + 4) = n + 18446744073709551616 ^ (i + 4) * o ∧ MulAtI a b c (i + 1) n' := by
  obtain ⟨h1, h2, h3⟩ := h
  refine ⟨n + 18446744073709551616 ^ (i + 4) * o, by rw [wj_high h2]; omega, ?_⟩
  unfold MulAtI
  rw [h1, Nat.mod_eq_of_lt hb, Nat.mod_pow_succ, Nat.add_mul]
  unfold wj
  omega
theorem mul_end {a b c n : Nat} (ha : a < 18446744073709551616 ^ 4) (h : MulAtI a b c 4 n) : n = a * b + c := by
  unfold MulAtI at h
  rw [Nat.mod_eq_of_lt ha] at h
  omega
end Go.Proofs.YtpliddkdahgbpaaDoor
