/- Columns: lists of numbers that stand for digits of 16 bits, not yet carried. No dump is imported beyond the digits. -/
import Derived.Test.YtnfckoamjeafhaaDoorRd
namespace Go.Proofs.YtnfckoamjeafhaaDoor
set_option linter.unusedVariables false
set_option linter.unusedSimpArgs false
open Go Go.RowKit

/-- The number of columns. -/
def dval : List Nat → Nat
  | [] => 0
  | x :: r => x + 65536 * dval r
theorem dval_set : ∀ (l : List Nat) (j x : Nat), j < l.length → dval (l.set j x) + 65536 ^ j * l.getD j 0 = dval l + 65536 ^ j * x
  | [], j, x, h => absurd h (by simp)
  | y :: r, 0, x, _ => by simp [dval]; omega
  | y :: r, j + 1, x, h => by
    have ih := dval_set r j x (by simpa using h)
    show y + 65536 * dval (r.set j x) + 65536 ^ (j + 1) * (r.getD j 0) = y + 65536 * dval r + 65536 ^ (j + 1) * x
    rw [Nat.pow_succ, Nat.mul_comm (65536 ^ j) 65536, Nat.mul_assoc, Nat.mul_assoc]
    omega
theorem dval_zeros : ∀ n, dval (List.replicate n 0) = 0
  | 0 => rfl
  | n + 1 => by rw [List.replicate_succ, dval, dval_zeros n]
theorem dval_take_succ : ∀ (l : List Nat) (j : Nat), j < l.length → dval (l.take (j + 1)) = dval (l.take j) + 65536 ^ j * l.getD j 0
  | [], j, h => absurd h (by simp)
  | y :: r, 0, _ => by simp [dval]
  | y :: r, j + 1, h => by
    have ih := dval_take_succ r j (by simpa using h)
    show y + 65536 * dval (r.take (j + 1)) = y + 65536 * dval (r.take j) + 65536 ^ (j + 1) * (r.getD j 0)
    rw [ih, Nat.pow_succ, Nat.mul_comm (65536 ^ j) 65536, Nat.mul_assoc]
    omega
theorem dval_split : ∀ (l : List Nat) (j : Nat), dval l = dval (l.take j) + 65536 ^ j * dval (l.drop j)
  | l, 0 => by simp [dval]
  | [], j + 1 => by simp [dval]
  | y :: r, j + 1 => by
    have ih := dval_split r j
    show y + 65536 * dval r = y + 65536 * dval (r.take j) + 65536 ^ (j + 1) * dval (r.drop j)
    rw [ih, Nat.pow_succ, Nat.mul_comm (65536 ^ j) 65536, Nat.mul_assoc]
    omega
theorem dval_drop (l : List Nat) (j : Nat) (h : j < l.length) : dval (l.drop j) = l.getD j 0 + 65536 * dval (l.drop (j + 1)) := by
  rw [List.drop_eq_getElem_cons h]
  simp [dval, List.getD, List.getElem?_eq_getElem h]
theorem getD_set (l : List Nat) (i j x : Nat) (h : i < l.length) : (l.set i x).getD j 0 = if j = i then x else l.getD j 0 := by
  by_cases e : j = i
  · subst e
    simp [List.getD, List.getElem?_set, h]
  · have : i ≠ j := fun h => e h.symm
    simp [List.getD, List.getElem?_set, this, e]
/-- What is over behind j columns; the digits. -/
def ovr (l : List Nat) (j : Nat) : Nat := dval (l.take j) / 65536 ^ j
theorem ovr_zero (l : List Nat) : ovr l 0 = 0 := by simp [ovr, dval]
theorem ovr_step (l : List Nat) (j : Nat) (h : j < l.length) : (l.getD j 0 + ovr l j) / 65536 = ovr l (j + 1) := by
  unfold ovr
  rw [dval_take_succ l j h, Nat.pow_succ, ← Nat.div_div_eq_div_mul, Nat.add_mul_div_left _ _ (Nat.pow_pos (by omega)), Nat.add_comm]
theorem ovr_digit (l : List Nat) (j : Nat) (h : j < l.length) : (l.getD j 0 + ovr l j) % 65536 = dval l / 65536 ^ j % 65536 := by
  unfold ovr
  conv => rhs; rw [dval_split l j, Nat.add_mul_div_left _ _ (Nat.pow_pos (by omega)), dval_drop l j h]
  omega
theorem ovr_all (l : List Nat) : dval l / 65536 ^ l.length = ovr l l.length := by
  unfold ovr
  rw [List.take_of_length_le (Nat.le_refl _)]

/-! A row of products. -/
/-- What stands in the columns behind i rows. -/
def ColAt (n x y z i : Nat) (l : List Nat) : Prop := l.length = n ∧ dval l = z % 65536 ^ i + x % 65536 ^ i * y ∧ ∀ j, l.getD j 0 ≤ 4300000000 * i
/-- What stands in the columns in row i, behind k products. -/
def ColIn (n x y v i k : Nat) (l : List Nat) : Prop := l.length = n ∧ dval l = v + 65536 ^ i * (x / 65536 ^ i % 65536) * (y % 65536 ^ k) ∧ (∀ j, l.getD j 0 ≤ 4300000000 * (i + 1)) ∧ ∀ j, i + k ≤ j → l.getD j 0 ≤ 4300000000 * i + 65535
theorem col_start (n x y z : Nat) : ColAt n x y z 0 (List.replicate n 0) := by
  refine ⟨by simp, ?_, fun j => ?_⟩
  · rw [dval_zeros, Nat.pow_zero, Nat.mod_one, Nat.mod_one]
    simp
  · by_cases h : j < n <;> simp [List.getD, List.getElem?_replicate, h]
theorem col_in {n x y z i : Nat} {l : List Nat} (hi : i < n) (h : ColAt n x y z i l) : ColIn n x y (z % 65536 ^ (i + 1) + x % 65536 ^ i * y) i 0 (l.set i (l.getD i 0 + z / 65536 ^ i % 65536)) := by
  obtain ⟨h1, h2, h3⟩ := h
  have hz : z / 65536 ^ i % 65536 < 65536 := Nat.mod_lt _ (by omega)
  refine ⟨by rw [List.length_set, h1], ?_, fun j => ?_, fun j _ => ?_⟩
  · have hs := dval_set l i (l.getD i 0 + z / 65536 ^ i % 65536) (by omega)
    rw [Nat.pow_zero, Nat.mod_one, Nat.mul_zero, Nat.add_zero, Nat.mod_pow_succ]
    rw [Nat.mul_add, h2] at hs
    omega
  · have hl : i < l.length := by omega
    clear h2
    rw [getD_set _ _ _ _ hl]
    have e : 4300000000 * (i + 1) = 4300000000 * i + 4300000000 := Nat.mul_succ _ _
    have k1 := h3 j
    have k2 := h3 i
    generalize 4300000000 * (i + 1) = X at *
    generalize 4300000000 * i = Y at *
    split <;> omega
  · have hl : i < l.length := by omega
    clear h2
    rw [getD_set _ _ _ _ hl]
    have e : 4300000000 * (i + 1) = 4300000000 * i + 4300000000 := Nat.mul_succ _ _
    have k1 := h3 j
    have k2 := h3 i
    generalize 4300000000 * (i + 1) = X at *
    generalize 4300000000 * i = Y at *
    split <;> omega
theorem col_in0 {n x y i : Nat} {l : List Nat} (h : ColAt n x y 0 i l) : ColIn n x y (x % 65536 ^ i * y) i 0 l := by
  obtain ⟨h1, h2, h3⟩ := h
  refine ⟨h1, ?_, fun j => ?_, fun j _ => ?_⟩
  · rw [Nat.pow_zero, Nat.mod_one, Nat.mul_zero, Nat.add_zero, h2, Nat.zero_mod, Nat.zero_add]
  · have e : 4300000000 * (i + 1) = 4300000000 * i + 4300000000 := Nat.mul_succ _ _
    have k1 := h3 j
    clear h2 h3
    generalize 4300000000 * (i + 1) = X at *
    generalize 4300000000 * i = Y at *
    omega
  · have e : 4300000000 * (i + 1) = 4300000000 * i + 4300000000 := Nat.mul_succ _ _
    have k1 := h3 j
    clear h2 h3
    generalize 4300000000 * (i + 1) = X at *
    generalize 4300000000 * i = Y at *
    omega
theorem col_step {n x y v i k : Nat} {l : List Nat} (hk : i + k < n) (h : ColIn n x y v i k l) :
    ColIn n x y v i (k + 1) (l.set (i + k) (l.getD (i + k) 0 + x / 65536 ^ i % 65536 * (y / 65536 ^ k % 65536))) ∧ l.getD (i + k) 0 ≤ 4300000000 * i + 65535 ∧ x / 65536 ^ i % 65536 * (y / 65536 ^ k % 65536) ≤ 4294836225 := by
  obtain ⟨h1, h2, h3, h4⟩ := h
  have hp : x / 65536 ^ i % 65536 * (y / 65536 ^ k % 65536) ≤ 65535 * 65535 := by
    have hx := Nat.mod_lt (x / 65536 ^ i) (show 0 < 65536 by omega)
    have hy := Nat.mod_lt (y / 65536 ^ k) (show 0 < 65536 by omega)
    exact Nat.mul_le_mul (by omega) (by omega)
  have hc := h4 (i + k) (Nat.le_refl _)
  refine ⟨⟨by rw [List.length_set, h1], ?_, fun j => ?_, fun j hj => ?_⟩, hc, by omega⟩
  · have hs := dval_set l (i + k) (l.getD (i + k) 0 + x / 65536 ^ i % 65536 * (y / 65536 ^ k % 65536)) (by omega)
    rw [Nat.mod_pow_succ, Nat.mul_add]
    rw [Nat.mul_add, h2] at hs
    have e : 65536 ^ i * (x / 65536 ^ i % 65536) * (65536 ^ k * (y / 65536 ^ k % 65536)) = 65536 ^ (i + k) * (x / 65536 ^ i % 65536 * (y / 65536 ^ k % 65536)) := by
      rw [Nat.pow_add]
      ac_rfl
    rw [e]
    omega
  · rw [getD_set _ _ _ _ (by omega)]
    have := h3 j
    split <;> omega
  · rw [getD_set _ _ _ _ (by omega), if_neg (by omega)]
    exact h4 j (by omega)
theorem col_end {n x y z i : Nat} {l : List Nat} (hy : y < 65536 ^ 16) (h : ColIn n x y (z % 65536 ^ (i + 1) + x % 65536 ^ i * y) i 16 l) : ColAt n x y z (i + 1) l := by
  obtain ⟨h1, h2, h3, h4⟩ := h
  refine ⟨h1, ?_, h3⟩
  rw [h2, Nat.mod_eq_of_lt hy, Nat.mod_pow_succ (b := 65536) (x := x), Nat.add_mul]
  omega
theorem col_all {n x y z : Nat} {l : List Nat} (hx : x < 65536 ^ 16) (hz : z < 65536 ^ 16) (h : ColAt n x y z 16 l) : dval l = x * y + z := by
  rw [h.2.1, Nat.mod_eq_of_lt hx, Nat.mod_eq_of_lt hz, Nat.add_comm]

/-! Cells. -/
/-- The cells of columns. -/
def cs64 (l : List Nat) : Array Value := ncs .u64 l
theorem cs64_size (l : List Nat) : (cs64 l).size = l.length := ncs_size _ _
theorem cs64_get (l : List Nat) {j : Nat} (h : j < l.length) : (cs64 l)[j]? = some (.int .u64 ((l.getD j 0 : Nat) : Int)) := by
  rw [cs64, ncs_get]
  simp [List.getD, List.getElem?_eq_getElem h]
  rfl
theorem cs64_set (l : List Nat) (j x : Nat) : (cs64 l).setIfInBounds j (.int .u64 (x : Int)) = cs64 (l.set j x) := ncs_set _ _ _ _
/-- 'make([]uint64, n)'. -/
theorem run_mku {P : Program} (t e : TypeId) (ht : P.underlying t = some (.slice e)) (he : (P.info? e).map (fun i => (i.zero, i.size, i.bytes)) = some (some (.int .u64 0), 1, 8)) (n : Nat) (hn : n ≤ 1000000) (W : World) :
    (Instr.makeSlice t (.int .i64 (n : Int)) (.int .i64 (n : Int))).run P W = .ok (.slice (some ⟨W.heap.size, 0, none⟩) n n) (W.alloc (.cells (cs64 (List.replicate n 0)) e)) := by
  obtain ⟨i, hi, hz, hs, hb⟩ := info_parts he
  have h := run_make (P := P) W t e i _ ht hi hz .i64 .i64 (n : Int) (n : Int) (by omega) (by omega) (by rw [hb]; omega) (by omega)
  simp only [Int.toNat_natCast, hs, Nat.mul_one] at h
  rw [h]
  have : madeCells (Value.int .u64 0).cells n = cs64 (List.replicate n 0) := by
    apply Array.toList_inj.1
    show (madeCells #[Value.int .u64 0] n).toList = _
    rw [toList_madeCells_one]
    simp [cs64, ncs, nc, List.map_replicate]
  rw [this]
theorem info_u64 : (Tryd.prog.info? 24).map (fun i => (i.zero, i.size, i.bytes)) = some (some (.int .u64 0), 1, 8) := by kernel_rfl
end Go.Proofs.YtnfckoamjeafhaaDoor
