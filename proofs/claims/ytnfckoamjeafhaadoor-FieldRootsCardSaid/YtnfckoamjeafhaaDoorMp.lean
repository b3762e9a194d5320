/- Words for the document's Mod: the value of a slice in a world; what is folded. -/
import Derived.Test.YtnfckoamjeafhaaDoorCa
import Derived.Test.YtnfckoamjeafhaaDoorRe
namespace Go.Proofs.YtnfckoamjeafhaaDoor
set_option linter.unusedVariables false
set_option linter.unusedSimpArgs false
open Go Go.RowKit

def natOfO : Option Value → Nat
  | some (.int _ n) => n.toNat
  | _ => 0
/-- The number that the slice reads as. -/
def readU (w : World) : Value → Nat
  | .slice (some a) n _ => dval ((List.range n).map fun j => natOfO (w.cell? (a.add j)))
  | _ => 0
def lenU : Value → Nat
  | .slice _ n _ => n
  | _ => 0
theorem readU_eq {w : World} {B n c : Nat} {A : Option Addr} {l : List Nat} (h : US w B A n c l) (hn : 0 < n) : readU w (.slice A n c) = dval l := by
  obtain ⟨b, o, rfl, hb, hc⟩ := h.at_ hn
  show dval _ = dval l
  congr 1
  apply List.ext_getElem?
  intro j
  by_cases hj : j < n
  · have hl : j < l.length := by rw [h.len]; exact hj
    have := hc j l[j] (List.getElem?_eq_getElem hl)
    rw [List.getElem?_eq_getElem hl]
    simp [hj, Addr.add_lit, this, natOfO]
  · rw [List.getElem?_eq_none (by simp; omega), List.getElem?_eq_none (by rw [h.len]; omega)]
/-- 'b[:k]'. -/
theorem run_headU {P : Program} (t e : TypeId) (ht : P.underlying t = some (.slice e)) (he : (P.info? e).map (fun i => (i.zero, i.size, i.bytes)) = some (some (.int .u64 0), 1, 8)) (A : Option Addr) (n c k : Nat) (hk : k ≤ c) (W : World) :
    (Instr.slice t (.slice A n c) none (some (.int .i64 (k : Int))) none).run P W = .ok (.slice A k c) W := by
  have hel : P.elem t = e := by simp [Program.elem, ht]
  obtain ⟨i, hi, hz, hs, hb⟩ := info_parts he
  have hsz : (sizeOf e).run P W = .ok 1 W := by simp [sizeOf, typeInfo, hi, hs]
  rw [run_slice_h W t A n c (by rw [hel]; exact ht) _ _ (by omega) (by omega), hel, hsz]
  simp only [Result.andThen, sliced, Int.toNat_natCast, Nat.zero_mul, Nat.sub_zero, map_add_zero]
  split <;> rfl
theorem US.head {w : World} {B n c : Nat} {A : Option Addr} {l : List Nat} (h : US w B A n c l) {k : Nat} (hk : k ≤ n) : US w B A k c (l.take k) :=
  ⟨by rw [List.length_take, h.len]; omega, by have := h.cap; omega, h.nil_, fun hp => by
    obtain ⟨b, o, e, hb, hc⟩ := h.at_ (by omega)
    refine ⟨b, o, e, hb, fun j x hx => hc j x ?_⟩
    rw [List.getElem?_take] at hx
    split at hx
    · exact hx
    · cases hx⟩
/-- The low sixteen columns, to which the first j of the higher ones are folded. -/
def lowl (l : List Nat) (j : Nat) : List Nat := (List.range 16).map fun t => l.getD t 0 + if t < j then 38 * l.getD (16 + t) 0 else 0
theorem lowl_len (l : List Nat) (j : Nat) : (lowl l j).length = 16 := by simp [lowl]
theorem lowl_zero (l : List Nat) (h : 16 ≤ l.length) : lowl l 0 = l.take 16 := by
  apply List.ext_getElem?
  intro t
  by_cases ht : t < 16
  · simp [lowl, ht, List.getD, List.getElem?_take, List.getElem?_eq_getElem (show t < l.length by omega)]
  · simp [lowl, ht, List.getElem?_take]
theorem lowl_at (l : List Nat) {j : Nat} (h : j < 16) : (lowl l j)[j]? = some (l.getD j 0) := by simp [lowl, h]
theorem lowl_step (l : List Nat) {j : Nat} (h : j < 16) : (lowl l j).set j (l.getD j 0 + 38 * l.getD (16 + j) 0) = lowl l (j + 1) := by
  apply List.ext_getElem?
  intro t
  rw [List.getElem?_set]
  by_cases ht : t < 16
  · by_cases e : j = t
    · subst e
      simp [lowl, h]
    · have e2 : (t < j + 1) = (t < j) := by rw [eq_iff_iff]; omega
      simp [lowl, ht, e, e2]
  · have : j ≠ t := by omega
    simp [lowl, ht, this]
theorem dval_step_set (l : List Nat) {j : Nat} (h : j < 16) : dval (lowl l (j + 1)) = dval (lowl l j) + 65536 ^ j * (38 * l.getD (16 + j) 0) := by
  have hs := dval_set (lowl l j) j (l.getD j 0 + 38 * l.getD (16 + j) 0) (by rw [lowl_len]; exact h)
  rw [lowl_step l h] at hs
  have e : (lowl l j).getD j 0 = l.getD j 0 := by simp [List.getD, lowl_at l h]
  rw [e, Nat.mul_add] at hs
  omega
theorem dval_lowl (l : List Nat) (hl : 16 ≤ l.length) : ∀ j, j ≤ 16 → 16 + j ≤ l.length → dval (lowl l j) = dval (l.take 16) + 38 * dval ((l.drop 16).take j)
  | 0, _, _ => by rw [lowl_zero l hl]; simp [dval]
  | j + 1, h, h2 => by
    rw [dval_step_set l (by omega), dval_lowl l hl j (by omega) (by omega), dval_take_succ (l.drop 16) j (by rw [List.length_drop]; omega)]
    have e : (l.drop 16).getD j 0 = l.getD (16 + j) 0 := by simp [List.getD]
    rw [e, Nat.mul_add]
    have e2 : 65536 ^ j * (38 * l.getD (16 + j) 0) = 38 * (65536 ^ j * l.getD (16 + j) 0) := by ac_rfl
    omega
theorem dval_fold (l : List Nat) {n : Nat} (hn : l.length = n) (h1 : 16 ≤ n) (h2 : n ≤ 32) : dval (lowl l (n - 16)) = dval (l.take 16) + 38 * dval (l.drop 16) := by
  have e : (l.drop 16).take (n - 16) = l.drop 16 := List.take_of_length_le (by rw [List.length_drop]; omega)
  rw [dval_lowl l (by omega) _ (by omega) (by omega), e]
theorem dval_bound : ∀ (l : List Nat) (M : Nat), (∀ j, l.getD j 0 ≤ M) → 65535 * dval l + M ≤ M * 65536 ^ l.length
  | [], M, _ => by simp [dval]
  | x :: r, M, h => by
    have h0 : x ≤ M := by have := h 0; simpa using this
    have ih := dval_bound r M (fun j => by have := h (j + 1); simpa using this)
    show 65535 * (x + 65536 * dval r) + M ≤ M * 65536 ^ (r.length + 1)
    rw [Nat.pow_succ, ← Nat.mul_assoc, Nat.mul_comm _ 65536, Nat.mul_add]
    have e : 65535 * (65536 * dval r) = 65536 * (65535 * dval r) := by ac_rfl
    have h3 : 65535 * x ≤ 65535 * M := Nat.mul_le_mul_left _ h0
    rw [e]
    generalize 65535 * dval r = Z at *
    generalize M * 65536 ^ r.length = Y at *
    omega
theorem pow16 : (65536 : Nat) ^ 16 = 2 * PP + 38 := by decide +kernel
/-- Folding once: the same modulo p, and less. -/
theorem fold_mod (l : List Nat) {n : Nat} (hn : l.length = n) (h1 : 16 ≤ n) (h2 : n ≤ 32) : dval (lowl l (n - 16)) % PP = dval l % PP := by
  rw [dval_fold l hn h1 h2]
  conv => rhs; rw [dval_split l 16, pow16]
  rw [Nat.add_mul]
  generalize dval (l.take 16) = x
  generalize dval (l.drop 16) = y
  rw [show x + (2 * PP * y + 38 * y) = x + 38 * y + PP * (2 * y) by rw [Nat.mul_comm 2 PP, Nat.mul_assoc]; omega, Nat.add_mul_mod_self_left]
theorem small_dval (l : List Nat) (h : ∀ j, l.getD j 0 < 65536) : dval l < 65536 ^ l.length := by
  have h2 := dval_bound l 65535 (fun j => by have := h j; omega)
  generalize 65536 ^ l.length = P at *
  omega
end Go.Proofs.YtnfckoamjeafhaaDoor
