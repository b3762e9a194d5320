/- The mac of a key and bytes, the outputs of a secret, purely (over BLAKE2s: XBa). No dump is imported. -/
import Derived.Test.YthjechjffhhiiaaDoorBa
namespace Go.Proofs.YthjechjffhhiiaaDoor
set_option linter.unusedVariables false
set_option linter.unusedSimpArgs false
open Go Go.RowKit

/-- A key's bytes: its hash, if there are more than 64. -/
def shortK (l : List UInt8) : List UInt8 := bif Nat.blt 64 l.length then rb 32 (hashB l) else l
/-- .. filled up with noughts. -/
def keyF (l : List UInt8) : Nat → UInt8 := fun i => (shortK l).getD i 0
def innL (l : List UInt8) : Nat → UInt8 := fun i => keyF l i ^^^ 54
def outL (l : List UInt8) : Nat → UInt8 := fun i => keyF l i ^^^ 92
/-- The mac. -/
def hmacF (l m : List UInt8) : Nat → UInt8 := hashB (rb 64 (outL l) ++ rb 32 (hashB (rb 64 (innL l) ++ m)))
/-- The outputs of c and m, from the first one (0) on. -/
def outK (c : Nat → UInt8) (m : List UInt8) : Nat → Nat → UInt8
  | 0 => hmacF (rb 32 (hmacF (rb 32 c) m)) [1]
  | k + 1 => hmacF (rb 32 (hmacF (rb 32 c) m)) (rb 32 (outK c m k) ++ [UInt8.ofNat (k + 2)])
theorem short_le {l : List UInt8} (h : l.length ≤ 64) : shortK l = l := by
  unfold shortK
  cases e : Nat.blt 64 l.length with
  | false => rfl
  | true => have : 64 + 1 ≤ l.length := Nat.le_of_ble_eq_true e; omega
theorem short_gt {l : List UInt8} (h : 64 < l.length) : shortK l = rb 32 (hashB l) := by
  unfold shortK
  rw [show Nat.blt 64 l.length = true from Nat.ble_eq_true_of_le h]
  rfl
theorem short_len (l : List UInt8) : (shortK l).length ≤ 64 := by
  rcases Nat.lt_or_ge 64 l.length with h | h
  · rw [short_gt h, rb_len]
    omega
  · rw [short_le h]
    exact h
/-- A long key is its hash. -/
theorem mac_long {l : List UInt8} (h : 64 < l.length) (m : List UInt8) : hmacF (rb 32 (hashB l)) m = hmacF l m := by
  have e : keyF (rb 32 (hashB l)) = keyF l := by
    unfold keyF
    rw [short_gt h, short_le (l := rb 32 (hashB l)) (by rw [rb_len]; omega)]
  unfold hmacF innL outL
  rw [e]
/-- Noughts behind a short one do not matter. -/
theorem mac_noughts {l : List UInt8} {k : Nat} (h : l.length + k ≤ 64) (m : List UInt8) : hmacF (l ++ List.replicate k 0) m = hmacF l m := by
  have e : keyF (l ++ List.replicate k 0) = keyF l := funext fun i => by
    unfold keyF
    rw [short_le (l := l ++ List.replicate k 0) (by rw [List.length_append, List.length_replicate]; omega), short_le (by omega), List.getD_eq_getElem?_getD, List.getD_eq_getElem?_getD]
    rcases Nat.lt_or_ge i l.length with h1 | h1
    · rw [List.getElem?_append_left h1]
    · rw [List.getElem?_append_right h1, List.getElem?_eq_none (l := l) h1, List.getElem?_replicate]
      split <;> rfl
  unfold hmacF innL outL
  rw [e]
/-! The chapter's row: outputs of a key and a byte. -/
def c1K : Nat → UInt8 := fun i => bif Nat.beq i 0 then 1 else 0
def tL : List UInt8 := [69, 78, 135, 160, 239, 71, 135, 40, 248, 11, 37, 130, 76, 161, 18, 205, 245, 149, 30, 175, 46, 175, 109, 183, 206, 123, 222, 55, 62, 191, 91, 19]
def o1L : List UInt8 := [245, 40, 46, 4, 54, 117, 240, 242, 152, 233, 39, 44, 101, 129, 250, 151, 128, 158, 21, 233, 198, 178, 27, 170, 142, 62, 3, 255, 208, 15, 24, 147]
def o2L : List UInt8 := [236, 52, 220, 164, 239, 55, 137, 186, 111, 84, 61, 84, 142, 163, 26, 247, 138, 95, 230, 63, 126, 25, 93, 23, 18, 54, 130, 232, 166, 96, 120, 147]
end Go.Proofs.YthjechjffhhiiaaDoor
