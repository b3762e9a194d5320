/- Layer 9 purely: numbers as digits of eight bits; 2^130 - 5; the mark. No dump is imported. -/
import Derived.Test.YtghbknebaknmjaaDoorIa
namespace Go.Proofs.YtghbknebaknmjaaDoor
set_option linter.unusedVariables false
set_option linter.unusedSimpArgs false
set_option maxRecDepth 100000

/-- What digits say, the lowest first. -/
def sumD (f : Nat → Nat) : Nat → Nat
  | 0 => 0
  | k + 1 => sumD f k + f k * 256 ^ k
theorem sumD_succ (f : Nat → Nat) (k : Nat) : sumD f (k + 1) = sumD f k + f k * 256 ^ k := rfl
theorem blt_ge {i k : Nat} (h : k ≤ i) : Nat.blt i k = false := by
  cases e : Nat.blt i k with
  | false => rfl
  | true =>
    have : i + 1 ≤ k := Nat.le_of_ble_eq_true e
    omega
theorem blt_lt {i k : Nat} (h : i < k) : Nat.blt i k = true := Nat.ble_eq_true_of_le h
def dig (N i : Nat) : Nat := N / 256 ^ i % 256
theorem dig_lt (N i : Nat) : dig N i < 256 := Nat.mod_lt _ (by omega)
theorem p256 (k : Nat) : 0 < 256 ^ k := Nat.pow_pos (by omega)
theorem sumD_ext {f g : Nat → Nat} : ∀ {k : Nat}, (∀ i, i < k → f i = g i) → sumD f k = sumD g k
  | 0, _ => rfl
  | k + 1, h => by
    unfold sumD
    rw [sumD_ext (fun i hi => h i (by omega)), h k (by omega)]
theorem sumD_dig (N : Nat) : ∀ k, sumD (dig N) k = N % 256 ^ k
  | 0 => by simp [sumD, Nat.mod_one]
  | k + 1 => by
    unfold sumD
    rw [sumD_dig N k, dig, Nat.pow_succ, Nat.mod_mul]
    rw [Nat.mul_comm]
theorem sumD_add (f g : Nat → Nat) : ∀ k, sumD (fun i => f i + g i) k = sumD f k + sumD g k
  | 0 => rfl
  | k + 1 => by
    unfold sumD
    rw [sumD_add f g k, Nat.add_mul]
    omega
theorem sumD_mul (c : Nat) (f : Nat → Nat) : ∀ k, sumD (fun i => c * f i) k = c * sumD f k
  | 0 => rfl
  | k + 1 => by
    unfold sumD
    rw [sumD_mul c f k, Nat.mul_add, Nat.mul_assoc]
theorem sumD_zero {f : Nat → Nat} {n : Nat} : ∀ {k : Nat}, n ≤ k → (∀ i, n ≤ i → i < k → f i = 0) → sumD f k = sumD f n
  | 0, h, _ => by rw [Nat.le_zero.1 h]
  | k + 1, h, hf => by
    rcases Nat.lt_or_ge n (k + 1) with hl | hl
    · rw [sumD_succ]
      rw [hf k (by omega) (by omega), Nat.zero_mul, Nat.add_zero]
      exact sumD_zero (by omega) (fun i h1 h2 => hf i h1 (by omega))
    · rw [show n = k + 1 by omega]
theorem le_step {S b X Y : Nat} (h : S * 255 + b ≤ X) (h1 : Y ≤ X) : (S + Y) * 255 + b ≤ X * 256 := by omega
theorem sumD_le {f : Nat → Nat} {b : Nat} : ∀ {k : Nat}, (∀ i, i < k → f i ≤ b) → sumD f k * 255 + b ≤ b * 256 ^ k
  | 0, _ => by simp [sumD]
  | k + 1, h => by
    have ih := sumD_le (f := f) (b := b) (k := k) (fun i hi => h i (by omega))
    have h1 : f k * 256 ^ k ≤ b * 256 ^ k := Nat.mul_le_mul_right _ (h k (by omega))
    rw [sumD_succ, Nat.pow_succ, ← Nat.mul_assoc]
    exact le_step ih h1
theorem sumD_lt {f : Nat → Nat} {k : Nat} (h : ∀ i, i < k → f i < 256) : sumD f k < 256 ^ k := by
  have := sumD_le (b := 255) (fun i hi => Nat.le_of_lt_succ (h i hi))
  have := p256 k
  omega
/-- Digits that are digits are the number's. -/
theorem dig_sumD {f : Nat → Nat} : ∀ {k : Nat}, (∀ i, i < k → f i < 256) → ∀ {i : Nat}, i < k → dig (sumD f k) i = f i
  | 0, _, i, hi => absurd hi (by omega)
  | k + 1, h, i, hi => by
    have hlt := sumD_lt (f := f) (k := k) (fun i hi => h i (by omega))
    by_cases e : i = k
    · subst e
      rw [sumD_succ]
      unfold dig
      rw [Nat.add_mul_div_right _ _ (p256 i), Nat.div_eq_of_lt hlt, Nat.zero_add, Nat.mod_eq_of_lt (h i (by omega))]
    · have ih := dig_sumD (f := f) (k := k) (fun i hi => h i (by omega)) (i := i) (by omega)
      rw [← ih, sumD_succ]
      unfold dig
      have e2 : f k * 256 ^ k = (f k * 256 ^ (k - i - 1) * 256) * 256 ^ i := by
        rw [Nat.mul_assoc, Nat.mul_assoc, ← Nat.pow_succ', ← Nat.pow_add, show k - i - 1 + (i + 1) = k by omega]
      rw [e2, Nat.add_mul_div_right _ _ (p256 i), Nat.add_mul_mod_self_right]

/-! Carrying, c being there at first. -/
def carC (c : Nat) (f : Nat → Nat) : Nat → Nat
  | 0 => c
  | k + 1 => (f k + carC c f k) / 256
theorem carC_sum (c : Nat) (f : Nat → Nat) : ∀ k, carC c f k = (sumD f k + c) / 256 ^ k
  | 0 => by simp [carC, sumD]
  | k + 1 => by
    rw [sumD_succ]
    unfold carC
    rw [carC_sum c f k, Nat.pow_succ, ← Nat.div_div_eq_div_mul, Nat.add_right_comm, Nat.add_mul_div_right _ _ (p256 k), Nat.add_comm]
theorem carD_dig (c : Nat) (f : Nat → Nat) (n : Nat) : ∀ i, i < n → (f i + carC c f i) % 256 = dig (sumD f n + c) i := by
  induction n with
  | zero => intro i hi; exact absurd hi (by omega)
  | succ n ih =>
    intro i hi
    by_cases e : i = n
    · subst e
      rw [sumD_succ]
      unfold dig
      rw [carC_sum, Nat.add_right_comm, Nat.add_mul_div_right _ _ (p256 i), Nat.add_comm]
    · rw [ih i (by omega)]
      unfold dig
      rw [sumD_succ]
      have e2 : f n * 256 ^ n = (f n * 256 ^ (n - i - 1) * 256) * 256 ^ i := by
        rw [Nat.mul_assoc, Nat.mul_assoc, ← Nat.pow_succ', ← Nat.pow_add, show n - i - 1 + (i + 1) = n by omega]
      rw [Nat.add_right_comm, e2, Nat.add_mul_div_right _ _ (p256 i), Nat.add_mul_mod_self_right]
theorem carC_le {c : Nat} {f : Nat → Nat} {b : Nat} (hc : c ≤ b) (h : ∀ i, f i ≤ b) : ∀ k, carC c f k ≤ b
  | 0 => hc
  | k + 1 => by
    have := carC_le hc h k
    have := h k
    unfold carC
    omega
/-! A row of which the first k places are done. -/
def mapK (F g : Nat → Nat) (k i : Nat) : Nat := bif Nat.blt i k then F i else g i
theorem mapK_same (F g : Nat → Nat) (k : Nat) : mapK F g k k = g k := by
  simp only [mapK, blt_ge (Nat.le_refl k), cond_false]
theorem mapK_lt {F g : Nat → Nat} {k i : Nat} (h : i < k) : mapK F g k i = F i := by simp only [mapK, blt_lt h, cond_true]
theorem mapK_ge {F g : Nat → Nat} {k i : Nat} (h : k ≤ i) : mapK F g k i = g i := by simp only [mapK, blt_ge h, cond_false]
theorem mapK_0 (F g : Nat → Nat) : mapK F g 0 = g := funext fun i => mapK_ge (Nat.zero_le i)
def updN (f : Nat → Nat) (a v i : Nat) : Nat := bif Nat.beq i a then v else f i
theorem updN_self (f : Nat → Nat) (a v : Nat) : updN f a v a = v := by simp [updN]
theorem updN_ne {f : Nat → Nat} {a v i : Nat} (h : i ≠ a) : updN f a v i = f i := by simp only [updN, nb_ne h, cond_false]
theorem updN_updN (f : Nat → Nat) (a v u : Nat) : updN (updN f a v) a u = updN f a u := funext fun i => by
  by_cases h : i = a
  · subst h; rw [updN_self, updN_self]
  · rw [updN_ne h, updN_ne h, updN_ne h]
theorem mapK_step (F g : Nat → Nat) (k : Nat) : updN (mapK F g k) k (F k) = mapK F g (k + 1) := funext fun i => by
  by_cases h : i = k
  · subst h
    rw [updN_self, mapK_lt (by omega)]
  · rw [updN_ne h]
    by_cases h2 : i < k
    · rw [mapK_lt h2, mapK_lt (by omega)]
    · rw [mapK_ge (by omega), mapK_ge (by omega)]

/-! 2^130 is 5. -/
def PM : Nat := 1361129467683753853853498429727072845819
theorem PM_def : (1361129467683753853853498429727072845824 : Nat) = PM + 5 := by decide +kernel
theorem p130 : (1361129467683753853853498429727072845824 : Nat) = 256 ^ 16 * 4 := by decide +kernel
def fold5 (V : Nat) : Nat := V % 1361129467683753853853498429727072845824 + 5 * (V / 1361129467683753853853498429727072845824)
theorem fold5_mod (V : Nat) : fold5 V % PM = V % PM := by
  have h := Nat.mod_add_div V 1361129467683753853853498429727072845824
  have e : V = fold5 V + PM * (V / 1361129467683753853853498429727072845824) := by
    unfold fold5
    have h2 : 1361129467683753853853498429727072845824 * (V / 1361129467683753853853498429727072845824) = PM * (V / 1361129467683753853853498429727072845824) + 5 * (V / 1361129467683753853853498429727072845824) := by
      rw [← Nat.add_mul, ← PM_def]
    omega
  conv => rhs; rw [e]
  rw [Nat.add_mul_mod_self_left]
theorem fold5_four {V : Nat} (h : V < 7588550360256754183279148073529370729071901715047420004889892225542594864082845696) : fold5 (fold5 (fold5 (fold5 V))) < 1361129467683753853853498429727072845824 := by
  have h1 : V / 1361129467683753853853498429727072845824 < 5575186299632655785383929568162090376495104 := by
    rw [Nat.div_lt_iff_lt_mul (by omega)]
    exact h
  have e1 : fold5 V < 1361129467683753853853498429727072845824 + 27875931498163278926919647840810451882475520 := by
    unfold fold5
    have := Nat.mod_lt V (show 0 < 1361129467683753853853498429727072845824 by omega)
    omega
  have e2 : fold5 (fold5 V) < 1361129467683753853853498429727072845824 + 163841 := by
    generalize fold5 V = x at e1 ⊢
    unfold fold5
    omega
  have e3 : fold5 (fold5 (fold5 V)) < 1361129467683753853853498429727072845824 := by
    generalize fold5 (fold5 V) = x at e2 ⊢
    unfold fold5
    omega
  generalize fold5 (fold5 (fold5 V)) = x at e3 ⊢
  unfold fold5
  omega
/-- What stands above. -/
def upD (d : Nat → Nat) (j : Nat) : Nat := d (16 + j) / 4 + d (17 + j) % 4 * 64
def loD (d : Nat → Nat) (i : Nat) : Nat := bif Nat.blt i 16 then d i else bif Nat.beq i 16 then d 16 % 4 else 0
theorem up_dig (V j : Nat) : dig V (16 + j) / 4 + dig V (17 + j) % 4 * 64 = dig (V / 1361129467683753853853498429727072845824) j := by
  unfold dig
  rw [show 17 + j = (16 + j) + 1 by omega, Nat.pow_succ, ← Nat.div_div_eq_div_mul, p130, ← Nat.div_div_eq_div_mul, show V / 256 ^ 16 / 4 / 256 ^ j = V / 256 ^ (16 + j) / 4 by
    rw [Nat.div_div_eq_div_mul, Nat.mul_comm 4, ← Nat.div_div_eq_div_mul, Nat.div_div_eq_div_mul V, ← Nat.pow_add]]
  generalize V / 256 ^ (16 + j) = W
  omega
theorem lo_sum (V : Nat) : sumD (loD (dig V)) 34 = V % 1361129467683753853853498429727072845824 := by
  rw [sumD_zero (n := 17) (by omega) (fun i h1 h2 => by
    unfold loD
    rw [blt_ge (show 16 ≤ i by omega), nb_ne (show i ≠ 16 by omega)]
    rfl)]
  unfold sumD
  rw [sumD_ext (g := dig V) (fun i hi => by
    unfold loD
    rw [blt_lt hi]
    rfl), sumD_dig]
  show V % 256 ^ 16 + V / 256 ^ 16 % 256 % 4 * 256 ^ 16 = _
  rw [p130, Nat.mod_mul, show V / 256 ^ 16 % 256 % 4 = V / 256 ^ 16 % 4 by omega, Nat.mul_comm]
theorem up_sum {V : Nat} (h : V < 256 ^ 34) : sumD (fun j => dig (V / 1361129467683753853853498429727072845824) j) 34 = V / 1361129467683753853853498429727072845824 := by
  show sumD (dig (V / 1361129467683753853853498429727072845824)) 34 = _
  rw [sumD_dig, Nat.mod_eq_of_lt (Nat.lt_of_le_of_lt (Nat.div_le_self _ _) h)]
/-! The rows of 'small' while they turn. -/
def upK (d : Nat → Nat) (k j : Nat) : Nat := (bif Nat.blt j k then d (16 + j) / 4 else 0) + (bif Nat.blt (j + 1) k then d (17 + j) % 4 * 64 else 0)
def loK (d : Nat → Nat) (k i : Nat) : Nat := bif Nat.blt i 16 then d i else bif Nat.blt i (16 + k) then bif Nat.beq i 16 then d 16 % 4 else 0 else d i
theorem upK_0 (d : Nat → Nat) : upK d 0 = fun _ => 0 := rfl
theorem loK_0 (d : Nat → Nat) : loK d 0 = d := funext fun i => by
  unfold loK
  by_cases h : i < 16
  · rw [blt_lt h]; rfl
  · rw [blt_ge (show 16 ≤ i by omega)]; rfl
theorem loK_at (d : Nat → Nat) (k : Nat) : loK d k (16 + k) = d (16 + k) := by
  unfold loK
  rw [blt_ge (by omega), blt_ge (by omega)]
  rfl
theorem upK_at (d : Nat → Nat) (k : Nat) : upK d k k = 0 := by
  unfold upK
  rw [blt_ge (Nat.le_refl k), blt_ge (by omega)]
  rfl
theorem upK_first (d : Nat → Nat) : updN (upK d 0) 0 (d 16 / 4) = upK d 1 := funext fun j => by
  unfold upK
  by_cases h : j = 0
  · subst h; rfl
  · rw [updN_ne h, blt_ge (by omega), blt_ge (by omega), blt_ge (show 1 ≤ j by omega), blt_ge (show 1 ≤ j + 1 by omega)]
theorem loK_first (d : Nat → Nat) : updN (loK d 0) 16 (d 16 % 4) = loK d 1 := funext fun i => by
  rw [loK_0]
  unfold loK
  by_cases h : i = 16
  · subst h; rw [updN_self]; rfl
  · rw [updN_ne h]
    by_cases h2 : i < 16
    · rw [blt_lt h2]; rfl
    · rw [blt_ge (by omega), blt_ge (by omega)]; rfl
theorem upK_low (d : Nat → Nat) (k : Nat) : updN (upK d (k + 1)) (k + 1) (d (16 + (k + 1)) / 4) k = d (16 + k) / 4 := by
  rw [updN_ne (by omega)]
  unfold upK
  rw [blt_lt (by omega), blt_ge (by omega)]
  rfl
theorem upK_next (d : Nat → Nat) (k : Nat) : updN (updN (upK d (k + 1)) (k + 1) (d (16 + (k + 1)) / 4)) k (d (16 + k) / 4 + d (16 + (k + 1)) % 4 * 64) = upK d (k + 2) := funext fun j => by
  by_cases h : j = k
  · subst h
    rw [updN_self]
    unfold upK
    rw [blt_lt (by omega), blt_lt (by omega), show 17 + j = 16 + (j + 1) by omega]
    rfl
  · rw [updN_ne h]
    by_cases h2 : j = k + 1
    · subst h2
      rw [updN_self]
      unfold upK
      rw [blt_lt (by omega), blt_ge (by omega)]
      rfl
    · rw [updN_ne h2]
      unfold upK
      by_cases h3 : j < k
      · rw [blt_lt (by omega), blt_lt (by omega), blt_lt (by omega), blt_lt (by omega)]
      · rw [blt_ge (by omega), blt_ge (by omega), blt_ge (by omega), blt_ge (by omega)]
theorem loK_next (d : Nat → Nat) (k : Nat) : updN (loK d (k + 1)) (16 + (k + 1)) 0 = loK d (k + 2) := funext fun i => by
  by_cases h : i = 16 + (k + 1)
  · subst h
    rw [updN_self]
    unfold loK
    rw [blt_ge (by omega), blt_lt (by omega), nb_ne (by omega)]
    rfl
  · rw [updN_ne h]
    unfold loK
    by_cases h1 : i < 16
    · rw [blt_lt h1]; rfl
    · rw [blt_ge (by omega)]
      by_cases h2 : i < 16 + (k + 1)
      · rw [blt_lt h2, blt_lt (by omega)]
      · rw [blt_ge (by omega), blt_ge (by omega)]
theorem dig_big {V i : Nat} (h : V < 256 ^ 34) (hi : 34 ≤ i) : dig V i = 0 := by
  unfold dig
  rw [Nat.div_eq_of_lt (Nat.lt_of_lt_of_le h (Nat.pow_le_pow_right (by omega) hi))]
theorem upK_all {V : Nat} (h : V < 256 ^ 34) (j : Nat) : upK (dig V) 18 j = dig (V / 1361129467683753853853498429727072845824) j := by
  rw [← up_dig]
  unfold upK
  by_cases h1 : j < 18
  · rw [blt_lt h1]
    by_cases h2 : j < 17
    · rw [blt_lt (by omega)]; rfl
    · rw [blt_ge (by omega), show j = 17 by omega, dig_big h (show 34 ≤ 17 + 17 by omega)]; rfl
  · rw [blt_ge (by omega), blt_ge (by omega), dig_big h (show 34 ≤ 16 + j by omega), dig_big h (show 34 ≤ 17 + j by omega)]; rfl
theorem loK_all {V : Nat} (h : V < 256 ^ 34) (i : Nat) : loK (dig V) 18 i = loD (dig V) i := by
  unfold loK loD
  by_cases h1 : i < 16
  · rw [blt_lt h1]; rfl
  · rw [blt_ge (by omega)]
    by_cases h2 : i < 34
    · rw [blt_lt (by omega)]; rfl
    · rw [blt_ge (by omega), nb_ne (by omega), dig_big h (by omega)]; rfl
/-- A round's digits, and what they say. -/
def roundD (V : Nat) (i : Nat) : Nat := loD (dig V) i + 5 * dig (V / 1361129467683753853853498429727072845824) i
theorem roundD_sum {V : Nat} (h : V < 256 ^ 34) : sumD (roundD V) 34 = fold5 V := by
  unfold roundD
  rw [sumD_add (loD (dig V)) (fun i => 5 * dig (V / 1361129467683753853853498429727072845824) i), sumD_mul, lo_sum, up_sum h]
  rfl
theorem roundD_le (V i : Nat) : roundD V i ≤ 1530 := by
  have h1 := dig_lt (V / 1361129467683753853853498429727072845824) i
  have h2 : loD (dig V) i ≤ 255 := by
    unfold loD
    have h3 := dig_lt V i
    have h4 := dig_lt V 16
    cases Nat.blt i 16 with
    | true => show dig V i ≤ 255; omega
    | false =>
      cases Nat.beq i 16 with
      | true => show dig V 16 % 4 ≤ 255; omega
      | false => exact Nat.zero_le _
  unfold roundD
  omega
/-- Is it too great? -/
def grB (v : Nat) : Nat → Bool
  | 0 => decide (dig v 16 = 3) && decide (251 ≤ dig v 0)
  | k + 1 => grB v k && decide (dig v (k + 1) = 255)
theorem grB_all (v : Nat) : ∀ k, grB v k = true ↔ dig v 16 = 3 ∧ 251 ≤ dig v 0 ∧ ∀ j, 1 ≤ j → j ≤ k → dig v j = 255
  | 0 => by
    simp only [grB, Bool.and_eq_true, decide_eq_true_eq]
    exact ⟨fun h => ⟨h.1, h.2, fun j h1 h2 => absurd h2 (by omega)⟩, fun h => ⟨h.1, h.2.1⟩⟩
  | k + 1 => by
    simp only [grB, Bool.and_eq_true, decide_eq_true_eq, grB_all v k]
    refine ⟨fun h => ⟨h.1.1, h.1.2.1, fun j h1 h2 => ?_⟩, fun h => ⟨⟨h.1, h.2.1, fun j h1 h2 => h.2.2 j h1 (by omega)⟩, h.2.2 (k + 1) (by omega) (Nat.le_refl _)⟩⟩
    rcases Nat.lt_or_ge j (k + 1) with hl | hl
    · exact h.1.2.2 j h1 (by omega)
    · rw [show j = k + 1 by omega]; exact h.2
theorem sum17 (f : Nat → Nat) : sumD f 17 = f 0 + f 1 * 256 + f 2 * 65536 + f 3 * 16777216 + f 4 * 4294967296 + f 5 * 1099511627776 + f 6 * 281474976710656 + f 7 * 72057594037927936 + f 8 * 18446744073709551616 + f 9 * 4722366482869645213696 + f 10 * 1208925819614629174706176 + f 11 * 309485009821345068724781056 + f 12 * 79228162514264337593543950336 + f 13 * 20282409603651670423947251286016 + f 14 * 5192296858534827628530496329220096 + f 15 * 1329227995784915872903807060280344576 + f 16 * 340282366920938463463374607431768211456 := by
  simp only [sumD_succ, sumD, Nat.zero_add, Nat.pow_zero, Nat.mul_one]
theorem v17 {v : Nat} (h : v < 1361129467683753853853498429727072845824) : v = sumD (dig v) 17 := by
  rw [sumD_dig, Nat.mod_eq_of_lt]
  exact Nat.lt_of_lt_of_le h (by decide)
theorem great_iff {v : Nat} (h : v < 1361129467683753853853498429727072845824) : grB v 15 = true ↔ PM ≤ v := by
  rw [grB_all]
  have hv := v17 h
  rw [sum17] at hv
  have b : ∀ i, dig v i < 256 := dig_lt v
  have h16 : dig v 16 < 4 := by
    unfold dig
    rw [show 256 ^ 16 = 340282366920938463463374607431768211456 by decide]
    omega
  unfold PM
  have := b 0; have := b 1; have := b 2; have := b 3; have := b 4; have := b 5; have := b 6; have := b 7; have := b 8; have := b 9; have := b 10; have := b 11; have := b 12; have := b 13; have := b 14; have := b 15
  constructor
  · rintro ⟨h1, h2, h3⟩
    have := h3 1 (by omega) (by omega); have := h3 2 (by omega) (by omega); have := h3 3 (by omega) (by omega); have := h3 4 (by omega) (by omega); have := h3 5 (by omega) (by omega); have := h3 6 (by omega) (by omega); have := h3 7 (by omega) (by omega); have := h3 8 (by omega) (by omega)
    have := h3 9 (by omega) (by omega); have := h3 10 (by omega) (by omega); have := h3 11 (by omega) (by omega); have := h3 12 (by omega) (by omega); have := h3 13 (by omega) (by omega); have := h3 14 (by omega) (by omega); have := h3 15 (by omega) (by omega)
    omega
  · intro hp
    refine ⟨by omega, by omega, fun j h1 h2 => ?_⟩
    have hj : j = 1 ∨ j = 2 ∨ j = 3 ∨ j = 4 ∨ j = 5 ∨ j = 6 ∨ j = 7 ∨ j = 8 ∨ j = 9 ∨ j = 10 ∨ j = 11 ∨ j = 12 ∨ j = 13 ∨ j = 14 ∨ j = 15 := by omega
    rcases hj with rfl | rfl | rfl | rfl | rfl | rfl | rfl | rfl | rfl | rfl | rfl | rfl | rfl | rfl | rfl <;> omega
end Go.Proofs.YtghbknebaknmjaaDoor
