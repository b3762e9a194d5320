/- Plain facts on reading hexadecimal texts. No dump. -/
import Derived.Test.YtfjjpepnadcaaaaHexPure
namespace Go.Proofs.Ytfjjpepnadcaaaa
set_option linter.unusedVariables false
open Go Go.RowKit

/-- A digit's value; 16: it is none. -/
def digN (n : Nat) : Nat := if 48 ≤ n ∧ n ≤ 57 then n - 48 else if 97 ≤ n ∧ n ≤ 102 then n - 87 else 16
theorem digN_le (n : Nat) : digN n ≤ 16 := by unfold digN; split <;> (try split) <;> omega
def dg (l : List UInt8) (k : Nat) : Nat := digN ((l.getD k 0).toNat)
theorem dg_of {l : List UInt8} {k : Nat} {x : UInt8} (h : l[k]? = some x) : dg l k = digN x.toNat := by simp [dg, List.getD, h]
/-- Is it a text of digits, of even length? -/
def okB (l : List UInt8) : Bool := decide (l.length % 2 = 0) && decide (∀ k, k < l.length → dg l k < 16)
theorem ok_yes {l : List UInt8} (h0 : l.length % 2 = 0) (h : ∀ k, k < l.length → dg l k < 16) : okB l = true := by simp [okB, h0]; exact h
theorem ok_odd {l : List UInt8} (h0 : ¬ l.length % 2 = 0) : okB l = false := by simp [okB]; omega
theorem ok_no {l : List UInt8} {k : Nat} (hk : k < l.length) (h : ¬ dg l k < 16) : okB l = false := by
  simp only [okB, Bool.and_eq_false_iff, decide_eq_false_iff_not]
  exact .inr fun h2 => h (h2 k hk)
def unhexN (l : List UInt8) (j : Nat) : UInt8 := UInt8.ofNat (16 * dg l (2 * j) + dg l (2 * j + 1))
def unhex (l : List UInt8) (h : Nat) : List UInt8 := (List.range h).map (unhexN l)
theorem unhex_len (l : List UInt8) (h : Nat) : (unhex l h).length = h := by simp [unhex]
theorem unhex_step (l : List UInt8) (h : Nat) : unhex l (h + 1) = unhex l h ++ [unhexN l h] := by simp [unhex, List.range_succ]
/-- What the code's loop has made of the text after i digits. -/
def stN (l : List UInt8) (i j : Nat) : Nat := if 2 * j + 1 < i then 16 * dg l (2 * j) + dg l (2 * j + 1) else if 2 * j < i then dg l (2 * j) else 0
def stL (l : List UInt8) (h i : Nat) : List UInt8 := (List.range h).map fun j => UInt8.ofNat (stN l i j)
theorem stL_zero (l : List UInt8) (h : Nat) : stL l h 0 = zeros h := by
  apply List.ext_getElem? ; intro k
  simp only [stL, stN, zeros, List.getElem?_map, List.getElem?_range, List.getElem?_replicate]
  split
  · rename_i hk; simp [List.getElem?_range hk]
  · rename_i hk; rw [List.getElem?_eq_none (by simp; omega)]; rfl
theorem stL_end (l : List UInt8) (h : Nat) : stL l h (2 * h) = unhex l h := by
  unfold stL unhex
  apply List.map_congr_left
  intro j hj
  have := List.mem_range.1 hj
  simp only [stN, unhexN]
  rw [if_pos (by omega)]
theorem stL_at {l : List UInt8} {h i : Nat} (hi : i < 2 * h) : (stL l h i)[i / 2]? = some (UInt8.ofNat (stN l i (i / 2))) := by
  simp only [stL, List.getElem?_map]
  rw [List.getElem?_range (by omega)]
  rfl
/-- The value at the place of the next digit. -/
def curN (l : List UInt8) (i : Nat) : Nat := if i % 2 = 0 then 0 else dg l (i - 1)
theorem stN_cur (l : List UInt8) (i : Nat) : stN l i (i / 2) = curN l i := by
  unfold stN curN
  rw [if_neg (by omega)]
  by_cases h : i % 2 = 0
  · rw [if_neg (by omega), if_pos h]
  · rw [if_pos (by omega), if_neg h, show 2 * (i / 2) = i - 1 by omega]
theorem stL_step {l : List UInt8} {h i : Nat} (hi : i < 2 * h) : (stL l h i).set (i / 2) (UInt8.ofNat (16 * curN l i + dg l i)) = stL l h (i + 1) := by
  apply List.ext_getElem?
  intro j
  rw [List.getElem?_set]
  by_cases hj : i / 2 = j
  · subst hj
    have hlen : i / 2 < (stL l h i).length := by simp [stL]; omega
    rw [if_pos rfl, if_pos hlen]
    simp only [stL, List.getElem?_map]
    rw [List.getElem?_range (by omega)]
    simp only [Option.map_some, Option.some.injEq]
    congr 1
    unfold stN curN
    by_cases h2 : i % 2 = 0
    · rw [if_pos h2, if_neg (by omega), if_pos (by omega), show 2 * (i / 2) = i by omega]; omega
    · rw [if_neg h2, if_pos (by omega), show 2 * (i / 2) = i - 1 by omega, show i - 1 + 1 = i by omega]
  · rw [if_neg hj]
    simp only [stL, List.getElem?_map]
    by_cases hjh : j < h
    · rw [List.getElem?_range hjh]
      simp only [Option.map_some, Option.some.injEq]
      congr 1
      unfold stN
      by_cases h1 : 2 * j + 1 < i
      · rw [if_pos h1, if_pos (by omega)]
      · have a1 : ¬ (2 * j + 1 < i + 1) := by omega
        by_cases h2 : 2 * j < i
        · rw [if_neg h1, if_neg a1, if_pos h2, if_pos (by omega)]
        · have a2 : ¬ (2 * j < i + 1) := by omega
          rw [if_neg h1, if_neg a1, if_neg h2, if_neg a2]
    · rw [List.getElem?_eq_none (by simp; omega)]
      rfl
/-- '(b << 4) | d'. -/
theorem or_nibble (c d : Nat) (hc : c < 16) (hd : d < 16) : bits .or .u8 ((c : Int) * 16) (d : Int) = ((UInt8.ofNat (16 * c + d)).toNat : Int) := by
  have e : (c : Int) * 16 = ((c * 16 : Nat) : Int) := (Int.natCast_mul c 16).symm
  rw [e, u8_or_nat _ _ (by omega) (by omega)]
  have := Nat.two_pow_add_eq_or_of_lt (i := 4) (b := d) (by omega) c
  rw [show (2 : Nat) ^ 4 = 16 by decide] at this
  rw [Nat.mul_comm c 16, ← this]
  simp
  omega
end Go.Proofs.Ytfjjpepnadcaaaa
