/- Numbers as words of 64 bits, purely: sums, products, what stands above 2^130; the bytes of words. -/
import Derived.Test.YtghbknebaknmjaaDoorQd
namespace Go.Proofs.YtghbknebaknmjaaDoor
set_option linter.unusedVariables false
set_option linter.unusedSimpArgs false
set_option maxRecDepth 100000

/-- What words say, the lowest first. -/
def sumQ (f : Nat → Nat) : Nat → Nat
  | 0 => 0
  | k + 1 => sumQ f k + f k * 18446744073709551616 ^ k
theorem sumQ_succ (f : Nat → Nat) (k : Nat) : sumQ f (k + 1) = sumQ f k + f k * 18446744073709551616 ^ k := rfl
def wdg (N i : Nat) : Nat := N / 18446744073709551616 ^ i % 18446744073709551616
theorem wdg_lt (N i : Nat) : wdg N i < 18446744073709551616 := Nat.mod_lt _ (by omega)
theorem pQ (k : Nat) : 0 < 18446744073709551616 ^ k := Nat.pow_pos (by omega)
theorem sumQ_ext {f g : Nat → Nat} : ∀ {k : Nat}, (∀ i, i < k → f i = g i) → sumQ f k = sumQ g k
  | 0, _ => rfl
  | k + 1, h => by
    unfold sumQ
    rw [sumQ_ext (fun i hi => h i (by omega)), h k (by omega)]
theorem sumQ_wdg (N : Nat) : ∀ k, sumQ (wdg N) k = N % 18446744073709551616 ^ k
  | 0 => by simp [sumQ, Nat.mod_one]
  | k + 1 => by
    unfold sumQ
    rw [sumQ_wdg N k, wdg, Nat.pow_succ, Nat.mod_mul]
    rw [Nat.mul_comm]
theorem sumQ_add (f g : Nat → Nat) : ∀ k, sumQ (fun i => f i + g i) k = sumQ f k + sumQ g k
  | 0 => rfl
  | k + 1 => by
    unfold sumQ
    rw [sumQ_add f g k, Nat.add_mul]
    omega
theorem sumQ_mul (c : Nat) (f : Nat → Nat) : ∀ k, sumQ (fun i => c * f i) k = c * sumQ f k
  | 0 => rfl
  | k + 1 => by
    unfold sumQ
    rw [sumQ_mul c f k, Nat.mul_add, Nat.mul_assoc]
/-- Words above. -/
theorem wdg_up (N i k : Nat) : wdg N (i + k) = wdg (N / 18446744073709551616 ^ i) k := by
  unfold wdg
  rw [Nat.pow_add, ← Nat.div_div_eq_div_mul]
theorem wdg_low {N M i j : Nat} (h : N % 18446744073709551616 ^ j = M % 18446744073709551616 ^ j) (hi : i < j) : wdg N i = wdg M i := by
  have e : ∀ X : Nat, wdg X i = wdg (X % 18446744073709551616 ^ j) i := fun X => by
    unfold wdg
    obtain ⟨d, rfl⟩ : ∃ d, j = i + 1 + d := ⟨j - i - 1, by omega⟩
    rw [Nat.pow_add, Nat.pow_succ, ← Nat.mod_mul_right_div_self X, ← Nat.mod_mul_right_div_self (X % _), Nat.mod_mod_of_dvd _ (Nat.dvd_mul_right _ _)]
  rw [e N, e M, h]
theorem wdg_zero {N i : Nat} (h : N < 18446744073709551616 ^ i) : wdg N i = 0 := by
  unfold wdg
  rw [Nat.div_eq_of_lt h]
theorem wdg_big {N i j : Nat} (h : N < 18446744073709551616 ^ i) (hj : i ≤ j) : wdg N j = 0 := wdg_zero (Nat.lt_of_lt_of_le h (Nat.pow_le_pow_right (by omega) hj))
/-- Words that are words are the number's. -/
theorem sumQ_lt {f : Nat → Nat} : ∀ {k : Nat}, (∀ i, i < k → f i < 18446744073709551616) → sumQ f k < 18446744073709551616 ^ k
  | 0, _ => by simp [sumQ]
  | k + 1, h => by
    have ih := sumQ_lt (f := f) (k := k) (fun i hi => h i (by omega))
    have h1 : f k * 18446744073709551616 ^ k ≤ 18446744073709551615 * 18446744073709551616 ^ k := Nat.mul_le_mul_right _ (Nat.le_of_lt_succ (h k (by omega)))
    rw [sumQ_succ, Nat.pow_succ]
    generalize 18446744073709551616 ^ k = P at ih h1 ⊢
    generalize f k * P = Q at h1 ⊢
    omega
theorem wdg_sumW {f : Nat → Nat} : ∀ {k : Nat}, (∀ i, i < k → f i < 18446744073709551616) → ∀ {i : Nat}, i < k → wdg (sumQ f k) i = f i
  | 0, _, i, hi => absurd hi (by omega)
  | k + 1, h, i, hi => by
    have hlt := sumQ_lt (f := f) (k := k) (fun i hi => h i (by omega))
    by_cases e : i = k
    · subst e
      rw [sumQ_succ]
      unfold wdg
      rw [Nat.add_mul_div_right _ _ (pQ i), Nat.div_eq_of_lt hlt, Nat.zero_add, Nat.mod_eq_of_lt (h i (by omega))]
    · rw [← wdg_sumW (f := f) (k := k) (fun i hi => h i (by omega)) (i := i) (by omega), sumQ_succ]
      refine wdg_low (j := k) ?_ (by omega)
      rw [Nat.add_mul_mod_self_right]

/-! Carrying. -/
def carQ (f : Nat → Nat) : Nat → Nat
  | 0 => 0
  | k + 1 => (f k + carQ f k) / 18446744073709551616
def resQ (f : Nat → Nat) (i : Nat) : Nat := (f i + carQ f i) % 18446744073709551616
theorem carQ_sum (f : Nat → Nat) : ∀ k, carQ f k = sumQ f k / 18446744073709551616 ^ k
  | 0 => by simp [carQ, sumQ]
  | k + 1 => by
    rw [sumQ_succ]
    unfold carQ
    rw [carQ_sum f k, Nat.pow_succ, ← Nat.div_div_eq_div_mul, Nat.add_mul_div_right _ _ (pQ k), Nat.add_comm]
theorem resQ_wdg (f : Nat → Nat) (n : Nat) : ∀ i, i < n → resQ f i = wdg (sumQ f n) i := by
  unfold resQ
  induction n with
  | zero => intro i hi; exact absurd hi (by omega)
  | succ n ih =>
    intro i hi
    by_cases e : i = n
    · subst e
      rw [sumQ_succ]
      unfold wdg
      rw [carQ_sum, Nat.add_mul_div_right _ _ (pQ i), Nat.add_comm]
    · rw [ih i (by omega)]
      refine wdg_low (j := n) ?_ (by omega)
      rw [sumQ_succ, Nat.add_mul_mod_self_right]
theorem carQ_one {f : Nat → Nat} (h : ∀ i, f i ≤ 36893488147419103230) : ∀ k, carQ f k ≤ 1
  | 0 => Nat.zero_le _
  | k + 1 => by
    have := carQ_one h k
    have := h k
    unfold carQ
    omega
theorem carQ_lt {f : Nat → Nat} (h : ∀ i, f i ≤ 340282366920938463444927863358058659840) : ∀ k, carQ f k < 18446744073709551616
  | 0 => by show 0 < _; omega
  | k + 1 => by
    have := carQ_lt h k
    have := h k
    unfold carQ
    omega

/-! Sums. -/
def addQ (N M i : Nat) : Nat := wdg N i + wdg M i
theorem addQ_le (N M i : Nat) : addQ N M i ≤ 36893488147419103230 := by
  have := wdg_lt N i
  have := wdg_lt M i
  unfold addQ
  omega
theorem add_res {N M i : Nat} (hi : i < 3) : resQ (addQ N M) i = wdg (N + M) i := by
  rw [resQ_wdg (addQ N M) 3 i hi]
  refine wdg_low (j := 3) ?_ hi
  have e : sumQ (addQ N M) 3 = N % 18446744073709551616 ^ 3 + M % 18446744073709551616 ^ 3 := by
    unfold addQ
    rw [sumQ_add (wdg N) (wdg M), sumQ_wdg, sumQ_wdg]
  rw [e, ← Nat.add_mod]

/-! Differences. -/
def borQ (x y : Nat → Nat) : Nat → Nat
  | 0 => 0
  | k + 1 => if x k < y k + borQ x y k then 1 else 0
theorem borQ_le (x y : Nat → Nat) : ∀ k, borQ x y k ≤ 1
  | 0 => Nat.zero_le _
  | k + 1 => by
    unfold borQ
    split <;> omega
def difQ (x y : Nat → Nat) (i : Nat) : Nat := (x i + 18446744073709551616 - y i - borQ x y i) % 18446744073709551616
theorem dif_step {D Y X b c P d y x B : Nat} (ih : D + Y = X + b * P) (e : d + y + b = x + c * B) : D + d * P + (Y + y * P) = X + x * P + c * (P * B) := by
  have h : (d + y + b) * P = (x + c * B) * P := by rw [e]
  rw [Nat.add_mul, Nat.add_mul, Nat.add_mul] at h
  rw [Nat.mul_comm P B, ← Nat.mul_assoc]
  omega
theorem borQ_succ (x y : Nat → Nat) (k : Nat) : borQ x y (k + 1) = if x k < y k + borQ x y k then 1 else 0 := rfl
theorem dif_one {x y b : Nat} (hx : x < 18446744073709551616) (hy : y < 18446744073709551616) (hb : b ≤ 1) : (x + 18446744073709551616 - y - b) % 18446744073709551616 + y + b = x + (if x < y + b then 1 else 0) * 18446744073709551616 := by
  split <;> omega
theorem difQ_sum {x y : Nat → Nat} (hx : ∀ i, x i < 18446744073709551616) (hy : ∀ i, y i < 18446744073709551616) (k : Nat) : sumQ (difQ x y) k + sumQ y k = sumQ x k + borQ x y k * 18446744073709551616 ^ k := by
  induction k with
  | zero => simp [sumQ, borQ]
  | succ k ih =>
    have e := dif_one (hx k) (hy k) (borQ_le x y k)
    rw [← borQ_succ] at e
    rw [sumQ_succ, sumQ_succ, sumQ_succ, Nat.pow_succ]
    exact dif_step ih e
theorem pQ3 : 18446744073709551616 ^ 3 = 6277101735386680763835789423207666416102355444464034512896 := by decide +kernel
theorem dif_res {N M : Nat} (hN : N < 6277101735386680763835789423207666416102355444464034512896) (hM : M < 6277101735386680763835789423207666416102355444464034512896) :
    (borQ (wdg N) (wdg M) 3 = 1 ↔ N < M) ∧ (M ≤ N → ∀ i, i < 3 → difQ (wdg N) (wdg M) i = wdg (N - M) i) := by
  have h := difQ_sum (fun i => wdg_lt N i) (fun i => wdg_lt M i) 3
  have hl := sumQ_lt (f := difQ (wdg N) (wdg M)) (k := 3) (fun i _ => Nat.mod_lt _ (by omega))
  have hb := borQ_le (wdg N) (wdg M) 3
  rw [sumQ_wdg, sumQ_wdg, pQ3, Nat.mod_eq_of_lt hN, Nat.mod_eq_of_lt hM] at h
  rw [pQ3] at hl
  obtain ⟨b, hb2⟩ : ∃ b, borQ (wdg N) (wdg M) 3 = b := ⟨_, rfl⟩
  rw [hb2] at h hb ⊢
  have hb3 : b = 0 ∨ b = 1 := by omega
  refine ⟨?_, fun hle i hi => ?_⟩
  · rcases hb3 with rfl | rfl <;> constructor <;> intro _ <;> omega
  · have e : sumQ (difQ (wdg N) (wdg M)) 3 = N - M := by rcases hb3 with rfl | rfl <;> omega
    rw [← e, wdg_sumW (f := difQ (wdg N) (wdg M)) (fun i _ => Nat.mod_lt _ (by omega)) hi]

/-! Products: a row more. -/
def rowF (r V N i k : Nat) : Nat := r * wdg N k + wdg V (i + k)
theorem rowF_le {r : Nat} (hr : r < 18446744073709551616) (V N i k : Nat) : rowF r V N i k ≤ 340282366920938463444927863358058659840 := by
  have h1 := wdg_lt N k
  have h2 := wdg_lt V (i + k)
  have h3 : r * wdg N k ≤ 18446744073709551615 * 18446744073709551615 := Nat.mul_le_mul (by omega) (by omega)
  unfold rowF
  omega
/-- The row that is worked on: the first j places are done. -/
def inQ (r V N i j p : Nat) : Nat := if i ≤ p ∧ p < i + j then resQ (rowF r V N i) (p - i) else wdg V p
theorem inQ_0 (r V N i : Nat) : inQ r V N i 0 = wdg V := funext fun p => by
  unfold inQ
  rw [if_neg (by omega)]
theorem inQ_at (r V N i j : Nat) : inQ r V N i j (i + j) = wdg V (i + j) := by
  unfold inQ
  rw [if_neg (by omega)]
theorem inQ_step (r V N i j : Nat) : updN (inQ r V N i j) (i + j) ((r * wdg N j + wdg V (i + j) + carQ (rowF r V N i) j) % 18446744073709551616) = inQ r V N i (j + 1) := funext fun p => by
  by_cases h : p = i + j
  · subst h
    rw [updN_self]
    unfold inQ
    rw [if_pos (by omega), show i + j - i = j by omega]
    rfl
  · rw [updN_ne h]
    unfold inQ
    by_cases h2 : i ≤ p ∧ p < i + j
    · rw [if_pos h2, if_pos (by omega)]
    · rw [if_neg h2, if_neg (by omega)]
/-- What the rows ahead come to. -/
def rowsQ (N R i : Nat) : Nat := N * (R % 18446744073709551616 ^ i)
theorem rowsQ_succ (N R i : Nat) : rowsQ N R (i + 1) = rowsQ N R i + N * wdg R i * 18446744073709551616 ^ i := by
  unfold rowsQ wdg
  rw [Nat.pow_succ, Nat.mod_mul, Nat.mul_add, Nat.mul_comm (18446744073709551616 ^ i), Nat.mul_assoc]
theorem rowsQ_lt {N : Nat} (R i : Nat) (hN : N < 6277101735386680763835789423207666416102355444464034512896) : rowsQ N R i < 18446744073709551616 ^ (3 + i) := by
  unfold rowsQ
  rw [Nat.pow_add, pQ3]
  have h1 := Nat.mod_lt R (pQ i)
  exact Nat.lt_of_le_of_lt (Nat.mul_le_mul (Nat.le_of_lt hN) (Nat.le_refl _)) (Nat.mul_lt_mul_of_pos_left h1 (by omega))
theorem row_sum {N R i : Nat} (hN : N < 6277101735386680763835789423207666416102355444464034512896) : sumQ (rowF (wdg R i) (rowsQ N R i) N i) 3 = rowsQ N R (i + 1) / 18446744073709551616 ^ i := by
  have e : rowF (wdg R i) (rowsQ N R i) N i = fun k => wdg R i * wdg N k + wdg (rowsQ N R i / 18446744073709551616 ^ i) k := funext fun k => by
    unfold rowF
    rw [wdg_up]
  have hV : rowsQ N R i / 18446744073709551616 ^ i < 18446744073709551616 ^ 3 := by
    rw [Nat.div_lt_iff_lt_mul (pQ i), ← Nat.pow_add]
    exact rowsQ_lt R i hN
  rw [e, sumQ_add (fun k => wdg R i * wdg N k) (wdg _), sumQ_mul, sumQ_wdg, sumQ_wdg, Nat.mod_eq_of_lt hV, pQ3, Nat.mod_eq_of_lt hN, rowsQ_succ, Nat.add_mul_div_right _ _ (pQ i), Nat.mul_comm (wdg R i), Nat.add_comm]
theorem row_done {N R i : Nat} (hN : N < 6277101735386680763835789423207666416102355444464034512896) (p : Nat) : updN (inQ (wdg R i) (rowsQ N R i) N i 3) (i + 3) (carQ (rowF (wdg R i) (rowsQ N R i) N i) 3) p = wdg (rowsQ N R (i + 1)) p := by
  have hs := row_sum (R := R) (i := i) hN
  have hl := rowsQ_lt R (i + 1) hN
  by_cases h : p = i + 3
  · subst h
    rw [updN_self, carQ_sum, hs, wdg, Nat.div_div_eq_div_mul, ← Nat.pow_add, Nat.mod_eq_of_lt]
    rw [Nat.div_lt_iff_lt_mul (pQ _), ← Nat.pow_succ', show (i + 3).succ = 3 + (i + 1) by omega]
    exact hl
  · rw [updN_ne h]
    unfold inQ
    by_cases h2 : i ≤ p ∧ p < i + 3
    · obtain ⟨k, rfl⟩ : ∃ k, p = i + k := ⟨p - i, by omega⟩
      rw [if_pos h2, show i + k - i = k by omega, resQ_wdg _ 3 k (by omega), hs, wdg_up]
    · rw [if_neg h2]
      by_cases h3 : p < i
      · refine wdg_low (j := i) ?_ h3
        rw [rowsQ_succ, Nat.add_mul_mod_self_right]
      · rw [wdg_big (rowsQ_lt R i hN) (by omega), wdg_big hl (by omega)]
theorem rowsQ_0 (N R : Nat) : rowsQ N R 0 = 0 := by
  unfold rowsQ
  rw [Nat.pow_zero, Nat.mod_one, Nat.mul_zero]
theorem rowsQ_3 {N R : Nat} (hR : R < 6277101735386680763835789423207666416102355444464034512896) : rowsQ N R 3 = N * R := by
  unfold rowsQ
  rw [pQ3, Nat.mod_eq_of_lt hR]

/-! What stands above 2^130. -/
def upQ (V : Nat) : Nat := V / 1361129467683753853853498429727072845824
theorem p130Q : (1361129467683753853853498429727072845824 : Nat) = 18446744073709551616 ^ 2 * 4 := by decide +kernel
theorem upQ_wdg (V i : Nat) : wdg V (2 + i) / 4 + wdg V (3 + i) * 4611686018427387904 % 18446744073709551616 = wdg (upQ V) i := by
  unfold wdg upQ
  rw [show 3 + i = (2 + i) + 1 by omega, Nat.pow_succ, ← Nat.div_div_eq_div_mul, p130Q, ← Nat.div_div_eq_div_mul, show V / 18446744073709551616 ^ 2 / 4 / 18446744073709551616 ^ i = V / 18446744073709551616 ^ (2 + i) / 4 by
    rw [Nat.div_div_eq_div_mul, Nat.mul_comm 4, ← Nat.div_div_eq_div_mul, Nat.div_div_eq_div_mul V, ← Nat.pow_add]]
  generalize V / 18446744073709551616 ^ (2 + i) = W
  omega
def loQ (V : Nat) : Nat := V % 1361129467683753853853498429727072845824
theorem loQ_lt (V : Nat) : loQ V < 1361129467683753853853498429727072845824 := Nat.mod_lt _ (by omega)
theorem loQ_wdg (V : Nat) {i : Nat} (hi : i < 3) : updN (wdg V) 2 (wdg V 2 % 4) i = wdg (loQ V) i := by
  by_cases h : i = 2
  · subst h
    rw [updN_self]
    unfold wdg loQ
    rw [p130Q, Nat.mod_mul_right_div_self]
    generalize V / 18446744073709551616 ^ 2 = W
    omega
  · rw [updN_ne h]
    refine wdg_low (j := 2) ?_ (by omega)
    unfold loQ
    rw [p130Q, Nat.mod_mod_of_dvd _ (Nat.dvd_mul_right _ _)]
def folF (V i : Nat) : Nat := wdg (upQ V) i * 5 + wdg (loQ V) i
theorem folF_le (V i : Nat) : folF V i ≤ 340282366920938463444927863358058659840 := by
  have h1 := wdg_lt (upQ V) i
  have h2 := wdg_lt (loQ V) i
  unfold folF
  omega
theorem fol_res {V : Nat} (h : upQ V < 6277101735386680763835789423207666416102355444464034512896) {i : Nat} (hi : i < 3) : resQ (folF V) i = wdg (fold5 V) i := by
  have e : sumQ (folF V) 3 = fold5 V := by
    have e1 : folF V = fun k => 5 * wdg (upQ V) k + wdg (loQ V) k := funext fun k => by
      unfold folF
      rw [Nat.mul_comm]
    have hl : loQ V < 6277101735386680763835789423207666416102355444464034512896 := by have := loQ_lt V; omega
    rw [e1, sumQ_add (fun k => 5 * wdg (upQ V) k) (wdg (loQ V)), sumQ_mul, sumQ_wdg, sumQ_wdg, pQ3, Nat.mod_eq_of_lt h, Nat.mod_eq_of_lt hl, Nat.add_comm]
    rfl
  rw [resQ_wdg _ 3 i hi, e]

/-! Bytes. -/
theorem p256_8 : 18446744073709551616 = 256 ^ 8 := by decide +kernel
theorem p256_of (i : Nat) : (256 : Nat) ^ i = 18446744073709551616 ^ (i / 8) * 2 ^ (8 * (i % 8)) := by
  rw [p256_8, ← Nat.pow_mul, show (2 : Nat) ^ (8 * (i % 8)) = 256 ^ (i % 8) by rw [Nat.pow_mul], ← Nat.pow_add, Nat.div_add_mod]
theorem two_of {s : Nat} (hs : s < 8) : ∃ m, 18446744073709551616 = 2 ^ (8 * s) * (256 * m) := by
  refine ⟨2 ^ (8 * (7 - s)), ?_⟩
  rw [show (256 : Nat) = 2 ^ 8 by decide, ← Nat.pow_add, ← Nat.pow_add, show 8 * s + (8 + 8 * (7 - s)) = 64 by omega]
theorem dig_wdg (N i : Nat) : wdg N (i / 8) / 2 ^ (8 * (i % 8)) % 256 = dig N i := by
  unfold wdg dig
  rw [p256_of i, ← Nat.div_div_eq_div_mul]
  generalize N / 18446744073709551616 ^ (i / 8) = W
  obtain ⟨m, hm⟩ := two_of (s := i % 8) (by omega)
  conv => lhs; rw [hm]
  rw [Nat.mod_mul_right_div_self, Nat.mod_mul_right_mod]
theorem byte_wdg (N i : Nat) : UInt8.ofNat (wdg N (i / 8) / 2 ^ (8 * (i % 8))) = UInt8.ofNat (dig N i) := by
  apply UInt8.toNat_inj.1
  rw [UInt8.toNat_ofNat', UInt8.toNat_ofNat', ← dig_wdg, Nat.mod_mod]
/-- A byte that is put. -/
def putN (N i b : Nat) : Nat := N + b * 256 ^ i
theorem put_wdg {N i b : Nat} (hN : N < 256 ^ i) (hb : b < 256) (p : Nat) : updN (wdg N) (i / 8) (wdg N (i / 8) ||| b * 2 ^ (8 * (i % 8)) % 18446744073709551616) p = wdg (putN N i b) p := by
  obtain ⟨m, hm⟩ := two_of (s := i % 8) (by omega)
  have e256 := p256_of i
  obtain ⟨s, hs⟩ : ∃ s, 8 * (i % 8) = s := ⟨_, rfl⟩
  obtain ⟨q, hq⟩ : ∃ q, i / 8 = q := ⟨_, rfl⟩
  rw [hs, hq] at e256
  rw [hs] at hm ⊢
  rw [hq]
  have hS0 : 0 < 2 ^ s := Nat.pow_pos (by omega)
  have hm0 : 0 < m := by
    rcases Nat.eq_zero_or_pos m with rfl | h
    · simp at hm
    · exact h
  have hS256 : 2 ^ s * 256 ≤ 18446744073709551616 := by
    rw [hm, ← Nat.mul_assoc]
    exact Nat.le_mul_of_pos_right _ hm0
  have hN2 : N / 18446744073709551616 ^ q < 2 ^ s := by
    rw [Nat.div_lt_iff_lt_mul (pQ _), Nat.mul_comm, ← e256]
    exact hN
  have hb2 : b * 2 ^ s ≤ 255 * 2 ^ s := Nat.mul_le_mul_right _ (by omega)
  have ep : putN N i b = N + 18446744073709551616 ^ q * (b * 2 ^ s) := by
    unfold putN
    rw [e256, Nat.mul_left_comm]
  have ed : putN N i b / 18446744073709551616 ^ q = N / 18446744073709551616 ^ q + b * 2 ^ s := by
    rw [ep, Nat.add_mul_div_left _ _ (pQ q)]
  have hlt : putN N i b < 18446744073709551616 ^ (q + 1) := by
    rw [Nat.pow_succ', ← Nat.div_lt_iff_lt_mul (pQ q), ed]
    generalize N / 18446744073709551616 ^ q = X at hN2
    generalize b * 2 ^ s = Y at hb2 ⊢
    generalize 2 ^ s = Z at *
    omega
  by_cases h : p = q
  · subst h
    rw [updN_self]
    unfold wdg
    rw [ed]
    obtain ⟨X, hX⟩ : ∃ X, N / 18446744073709551616 ^ p = X := ⟨_, rfl⟩
    rw [hX] at hN2 ⊢
    have h1 : X % 18446744073709551616 = X := Nat.mod_eq_of_lt (by omega)
    have h2 : b * 2 ^ s % 18446744073709551616 = b * 2 ^ s := Nat.mod_eq_of_lt (by omega)
    have h3 : (X + b * 2 ^ s) % 18446744073709551616 = X + b * 2 ^ s := Nat.mod_eq_of_lt (by omega)
    rw [h1, h2, h3, Nat.or_comm, ← Nat.shiftLeft_eq, ← Nat.shiftLeft_add_eq_or_of_lt hN2, Nat.add_comm]
  · rw [updN_ne h]
    by_cases h2 : p < q
    · refine wdg_low (j := q) ?_ h2
      rw [ep, Nat.add_mul_mod_self_left]
    · have hN3 : N < 18446744073709551616 ^ (q + 1) := Nat.lt_of_le_of_lt (by unfold putN; omega) hlt
      rw [wdg_big hN3 (by omega), wdg_big hlt (by omega)]
end Go.Proofs.YtghbknebaknmjaaDoor
