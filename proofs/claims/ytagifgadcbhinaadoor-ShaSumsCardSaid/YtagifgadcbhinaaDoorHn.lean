/- The document's long numbers, purely: digits of 32 bits. No dump is imported. -/
namespace Go.Proofs.YtagifgadcbhinaaDoor
set_option linter.unusedVariables false
set_option linter.unusedSimpArgs false

def dv : List Nat → Nat
  | [] => 0
  | x :: r => x + 4294967296 * dv r
theorem dv_set : ∀ (l : List Nat) (j x : Nat), j < l.length → dv (l.set j x) + 4294967296 ^ j * l.getD j 0 = dv l + 4294967296 ^ j * x
  | [], j, x, h => absurd h (by simp)
  | y :: r, 0, x, _ => by simp [dv]; omega
  | y :: r, j + 1, x, h => by
    have ih := dv_set r j x (by simpa using h)
    show y + 4294967296 * dv (r.set j x) + 4294967296 ^ (j + 1) * (r.getD j 0) = y + 4294967296 * dv r + 4294967296 ^ (j + 1) * x
    rw [Nat.pow_succ, Nat.mul_comm (4294967296 ^ j) 4294967296, Nat.mul_assoc, Nat.mul_assoc]
    omega
theorem dv_zeros : ∀ n, dv (List.replicate n 0) = 0
  | 0 => rfl
  | n + 1 => by rw [List.replicate_succ, dv, dv_zeros n]
theorem dv_take_succ : ∀ (l : List Nat) (j : Nat), j < l.length → dv (l.take (j + 1)) = dv (l.take j) + 4294967296 ^ j * l.getD j 0
  | [], j, h => absurd h (by simp)
  | y :: r, 0, _ => by simp [dv]
  | y :: r, j + 1, h => by
    have ih := dv_take_succ r j (by simpa using h)
    show y + 4294967296 * dv (r.take (j + 1)) = y + 4294967296 * dv (r.take j) + 4294967296 ^ (j + 1) * (r.getD j 0)
    rw [ih, Nat.pow_succ, Nat.mul_comm (4294967296 ^ j) 4294967296, Nat.mul_assoc]
    omega
theorem dv_split : ∀ (l : List Nat) (j : Nat), dv l = dv (l.take j) + 4294967296 ^ j * dv (l.drop j)
  | l, 0 => by simp [dv]
  | [], j + 1 => by simp [dv]
  | y :: r, j + 1 => by
    have ih := dv_split r j
    show y + 4294967296 * dv r = y + 4294967296 * dv (r.take j) + 4294967296 ^ (j + 1) * dv (r.drop j)
    rw [ih, Nat.pow_succ, Nat.mul_comm (4294967296 ^ j) 4294967296, Nat.mul_assoc]
    omega
theorem dv_drop (l : List Nat) (j : Nat) : dv (l.drop j) = l.getD j 0 + 4294967296 * dv (l.drop (j + 1)) := by
  by_cases h : j < l.length
  · rw [List.drop_eq_getElem_cons h]
    simp [dv, List.getD, List.getElem?_eq_getElem h]
  · rw [List.drop_of_length_le (by omega), List.drop_of_length_le (by omega)]
    simp [dv, List.getD, show l[j]? = none by simp; omega]
theorem getD_set (l : List Nat) (i j x : Nat) (h : i < l.length) : (l.set i x).getD j 0 = if j = i then x else l.getD j 0 := by
  by_cases e : j = i
  · subst e
    simp [List.getD, List.getElem?_set, h]
  · have : i ≠ j := fun h => e h.symm
    simp [List.getD, List.getElem?_set, this, e]
def Dig (l : List Nat) : Prop := ∀ j, l.getD j 0 < 4294967296
theorem dv_lt : ∀ (l : List Nat) (j : Nat), Dig l → dv (l.take j) < 4294967296 ^ j
  | l, 0, _ => by simp [dv]
  | [], j + 1, _ => by simp [dv]; exact Nat.pow_pos (by omega)
  | y :: r, j + 1, h => by
    have ih := dv_lt r j (fun i => h (i + 1))
    have hy : y < 4294967296 := h 0
    show y + 4294967296 * dv (r.take j) < 4294967296 ^ (j + 1)
    rw [Nat.pow_succ]
    have : 4294967296 * (dv (r.take j) + 1) ≤ 4294967296 * 4294967296 ^ j := Nat.mul_le_mul_left _ ih
    omega
/-- What is less behind a place is less. -/
theorem dv_less {a b : List Nat} {j : Nat} (ha : Dig a) (h : dv (a.drop j) < dv (b.drop j)) : dv a < dv b := by
  have h1 := dv_split a j
  have h2 := dv_split b j
  have h3 := dv_lt a j ha
  have h4 : 4294967296 ^ j * (dv (a.drop j) + 1) ≤ 4294967296 ^ j * dv (b.drop j) := Nat.mul_le_mul_left _ h
  rw [Nat.mul_add] at h4
  omega
theorem most_step {a b : List Nat} {j : Nat} (ha : Dig a) (hb : Dig b) (he : dv (a.drop (j + 1)) = dv (b.drop (j + 1))) :
    (a.getD j 0 = b.getD j 0 → dv (a.drop j) = dv (b.drop j)) ∧ (a.getD j 0 ≠ b.getD j 0 → decide (a.getD j 0 < b.getD j 0) = decide (dv a ≤ dv b)) := by
  have h1 := dv_drop a j
  have h2 := dv_drop b j
  refine ⟨fun e => by omega, fun e => ?_⟩
  rcases Nat.lt_or_gt_of_ne e with h | h
  · have := dv_less (j := j) (b := b) ha (by omega)
    rw [decide_eq_true h, decide_eq_true (Nat.le_of_lt this)]
  · have := dv_less (a := b) (b := a) (j := j) hb (by omega)
    rw [decide_eq_false (by omega), decide_eq_false (by omega)]
/-! The product, row by row. -/
def RowAt (n : Nat) (a b : List Nat) (i : Nat) (l : List Nat) : Prop := l.length = n ∧ Dig l ∧ (∀ j, i + b.length ≤ j → l.getD j 0 = 0) ∧ dv l = dv (a.take i) * dv b
def RowIn (n x : Nat) (b : List Nat) (V i k : Nat) (l : List Nat) (c : Nat) : Prop := l.length = n ∧ Dig l ∧ (∀ j, i + b.length ≤ j → l.getD j 0 = 0) ∧ c < 4294967296 ∧ dv l + 4294967296 ^ (i + k) * c = V + 4294967296 ^ i * (x * dv (b.take k))
theorem row_start (n : Nat) (a b : List Nat) : RowAt n a b 0 (List.replicate n 0) := by
  have h : ∀ j, (List.replicate n 0).getD j 0 = 0 := fun j => by by_cases h : j < n <;> simp [List.getD, List.getElem?_replicate, h]
  refine ⟨by simp, fun j => by rw [h]; omega, fun j _ => h j, ?_⟩
  rw [dv_zeros]
  simp [dv]
theorem row_in {n x i : Nat} {a b l : List Nat} (h : RowAt n a b i l) : RowIn n x b (dv (a.take i) * dv b) i 0 l 0 := by
  obtain ⟨h1, h2, h3, h4⟩ := h
  refine ⟨h1, h2, h3, by omega, ?_⟩
  simp [dv, h4]
theorem row_step {n x V i k : Nat} {b l : List Nat} {c t : Nat} (hn : i + k < n) (hk : k < b.length) (hx : x < 4294967296) (hb : Dig b) (h : RowIn n x b V i k l c) (ht : t = x * b.getD k 0 + l.getD (i + k) 0 + c) :
    t < 18446744073709551616 ∧ RowIn n x b V i (k + 1) (l.set (i + k) (t % 4294967296)) (t / 4294967296) := by
  obtain ⟨h1, h2, h3, h4, h5⟩ := h
  have hp : x * b.getD k 0 ≤ 4294967295 * 4294967295 := Nat.mul_le_mul (by omega) (by have := hb k; omega)
  have ho := h2 (i + k)
  have htl : t < 18446744073709551616 := by omega
  refine ⟨htl, by rw [List.length_set, h1], fun j => ?_, fun j hj => ?_, by omega, ?_⟩
  · rw [getD_set _ _ _ _ (by omega)]
    split
    · omega
    · exact h2 j
  · rw [getD_set _ _ _ _ (by omega), if_neg (by omega)]
    exact h3 j hj
  · have hs := dv_set l (i + k) (t % 4294967296) (by omega)
    rw [dv_take_succ b k hk]
    have e1 : 4294967296 ^ (i + (k + 1)) * (t / 4294967296) = 4294967296 ^ (i + k) * (4294967296 * (t / 4294967296)) := by rw [← Nat.add_assoc, Nat.pow_succ, Nat.mul_assoc]
    have e2 : 4294967296 ^ i * (x * (dv (b.take k) + 4294967296 ^ k * b.getD k 0)) = 4294967296 ^ i * (x * dv (b.take k)) + 4294967296 ^ (i + k) * (x * b.getD k 0) := by
      rw [Nat.mul_add, Nat.mul_add, Nat.pow_add]
      congr 1
      ac_rfl
    have e3 : 4294967296 ^ (i + k) * (t % 4294967296) + 4294967296 ^ (i + k) * (4294967296 * (t / 4294967296)) = 4294967296 ^ (i + k) * (x * b.getD k 0) + 4294967296 ^ (i + k) * l.getD (i + k) 0 + 4294967296 ^ (i + k) * c := by
      rw [← Nat.mul_add, ← Nat.mul_add, ← Nat.mul_add, ← ht, Nat.mod_add_div]
    rw [e1, e2]
    omega
theorem row_end_ {n i : Nat} {a b l : List Nat} {c : Nat} (hn : i + b.length < n) (hi : i < a.length) (h : RowIn n (a.getD i 0) b (dv (a.take i) * dv b) i b.length l c) : RowAt n a b (i + 1) (l.set (i + b.length) c) := by
  obtain ⟨h1, h2, h3, h4, h5⟩ := h
  refine ⟨by rw [List.length_set, h1], fun j => ?_, fun j hj => ?_, ?_⟩
  · rw [getD_set _ _ _ _ (by omega)]
    split
    · exact h4
    · exact h2 j
  · rw [getD_set _ _ _ _ (by omega), if_neg (by omega)]
    exact h3 j (by omega)
  · have hs := dv_set l (i + b.length) c (by omega)
    rw [h3 (i + b.length) (by omega), Nat.mul_zero, Nat.add_zero] at hs
    rw [hs, h5, List.take_of_length_le (Nat.le_refl _), dv_take_succ a i hi, Nat.add_mul]
    congr 1
    ac_rfl
theorem row_all {n : Nat} {a b l : List Nat} (h : RowAt n a b a.length l) : l.length = n ∧ Dig l ∧ dv l = dv a * dv b := by
  obtain ⟨h1, h2, _, h4⟩ := h
  rw [List.take_of_length_le (Nat.le_refl _)] at h4
  exact ⟨h1, h2, h4⟩
end Go.Proofs.YtagifgadcbhinaaDoor
